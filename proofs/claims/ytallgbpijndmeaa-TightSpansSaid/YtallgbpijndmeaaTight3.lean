/-
  What tight's Set, Meet and Between answer, at any arguments; each theorem names its conditions.
-/
import Derived.Test.YtallgbpijndmeaaTight2
namespace Go.Proofs.Ytallgbpijndmeaa.tight
open Go.ChangeShapes Go.WideShapes Go.ChangeAt Go.RowKit num dbm
open bound hiding up
set_option linter.unusedVariables false
set_option linter.unusedSimpArgs false

/-- is a number a clock's? -/
def Clk (n i : Int) : Prop := 0 ≤ i ∧ i < n
instance decClk (n i : Int) : Decidable (Clk n i) := by unfold Clk; exact inferInstance
/-- an answer: of a list that is closed, or an error. -/
def Res (n : Int) (q : Option (List Int)) (err na : Int) (us : List Int) (f : Int) : Prop := (q = none ∧ na = 0 ∧ us = [] ∧ f = err) ∨ ∃ ts, q = some ts ∧ Ans n ts na us f
/-- what such a call answers. -/
def Tells (n : Int) (q : Option (List Int)) (err : Int) (w : World) (e : Ending) (w' : World) : Prop := Below w.heap.size w w' ∧ ∃ na aa la ca us f, e = .returned (.tuple #[.agg #[.int .i64 na, .slice aa la ca], .int .i64 f]) ∧ Res n q err na us f ∧ Blk w.heap.size w' aa la ca us
theorem Tells.err {n err : Int} {w w' : World} (h : Below w.heap.size w w') : Tells n none err w (.returned (.tuple #[.agg #[.int .i64 0, .slice none 0 0], .int .i64 err])) w' := ⟨h, 0, none, 0, 0, [], err, rfl, .inl ⟨rfl, rfl, rfl, rfl⟩, .inl ⟨rfl, rfl, rfl, rfl⟩⟩
/-- .. of Set. -/
def setQ (n : Int) (ts : List Int) (i j x : Int) : Option (List Int) := if MayD n ts ∧ Clk n i ∧ Clk n j ∧ Fine x then some (setT ts (i.toNat * n.toNat + j.toNat) x) else none
def setE (n : Int) (ts : List Int) (i j : Int) : Int := if MayD n ts ∧ ¬ (Clk n i ∧ Clk n j) then 2 else 8

theorem clk_yes {n i : Int} (h : Clk n i) : (decide (0 ≤ i) && decide (i < n)) = true := by simp [h.1, h.2]
theorem clk_no {n i : Int} (h : ¬ Clk n i) : (decide (0 ≤ i) && decide (i < n)) = false := by
  unfold Clk at h
  by_cases k : 0 ≤ i
  · have : ¬ i < n := fun l => h ⟨k, l⟩
    simp [this]
  · simp [k]
theorem clock_yes {n i : Int} (h : Clk n i) (sv : Value) (w : World) : Calls Try.prog 24 #[.agg #[.int .i64 n, sv], .int .i64 i] w fun e w' => e = .returned (.bool true) ∧ Below w.heap.size w w' := by
  have := clock_any n i sv w
  rwa [clk_yes h] at this
theorem clock_no {n i : Int} (h : ¬ Clk n i) (sv : Value) (w : World) : Calls Try.prog 24 #[.agg #[.int .i64 n, sv], .int .i64 i] w fun e w' => e = .returned (.bool false) ∧ Below w.heap.size w w' := by
  have := clock_any n i sv w
  rwa [clk_no h] at this

set_option maxRecDepth 100000 in
set_option maxHeartbeats 2000000 in
theorem set_may_no (n i j x : Int) (sv : Value) (ts : List Int) (w : World) (hI : law.Ints w.heap.size w sv ts) (hm : ts.length ≤ 1000000) (htop : Tops ts) (h : ¬ MayD n ts) :
    Calls Try.prog 9 #[.agg #[.int .i64 n, sv], .int .i64 i, .int .i64 j, .int .i64 x] w (Tells n none 8 w) := by
  obtain ⟨DB, D0, D1⟩ := dref.box_res n sv w
  have C := Lib.hid (check_no n sv ts _ ((hI.below DB).mono DB.size) hm htop h)
  obtain ⟨ad, cap, rfl⟩ := ints_len hI
  clear hI htop h
  go_enter Try.func9, Try.ntmps9
  go_wp2_with fail
  refine C.out.mono ?_
  rintro e w1 ⟨rfl, hB1⟩
  have E1 := lies.on_call D1 hB1
  have EB := DB.trans (hB1.mono DB.size)
  clear D0 D1 DB hB1 C
  obtain ⟨x0, x1, x2, x3, x4⟩ := lies.two E1
  go_wp2_with fail
  exact bodyPost_ret (v := .tuple #[.agg #[.int .i64 0, .slice none 0 0], .int .i64 8]) (by simp [results, Try.results9, go_sem, x0, x1]) rfl (Tells.err (dref.ret_res EB (by omega) _ _))

set_option maxRecDepth 100000 in
set_option maxHeartbeats 2000000 in
theorem set_clock_no (n i j x : Int) (sv : Value) (ts : List Int) (w : World) (hI : law.Ints w.heap.size w sv ts) (hm : ts.length ≤ 1000000) (htop : Tops ts) (h : MayD n ts) (hc : ¬ (Clk n i ∧ Clk n j)) :
    Calls Try.prog 9 #[.agg #[.int .i64 n, sv], .int .i64 i, .int .i64 j, .int .i64 x] w (Tells n none 2 w) := by
  obtain ⟨DB, D0, D1⟩ := dref.box_res n sv w
  have C := Lib.hid (check_ok n sv ts _ ((hI.below DB).mono DB.size) htop h)
  obtain ⟨ad, cap, rfl⟩ := ints_len hI
  clear hI htop h
  by_cases hi : Clk n i
  · have HI := Lib.hid hi
    have HJ := Lib.hid (fun k => hc ⟨hi, k⟩)
    clear hi hc
    go_enter Try.func9, Try.ntmps9
    go_wp2_with fail
    refine C.out.mono ?_
    rintro e w1 ⟨rfl, hB1⟩
    have E0 := lies.on_call D0 hB1
    have E1 := lies.on_call D1 hB1
    have EB := DB.trans (hB1.mono DB.size)
    clear D0 D1 DB hB1 C
    obtain ⟨x0, x1, x2, x3, x4⟩ := lies.two E0
    go_wp2_with fail
    refine (clock_yes HI.out _ _).mono ?_
    rintro e w2 ⟨rfl, hB2⟩
    have F0 := lies.on_call E0 hB2
    have F1 := lies.on_call E1 hB2
    have FB := EB.trans (hB2.mono EB.size)
    clear E0 E1 EB hB2 x0 x1 x2 x3 x4
    obtain ⟨x0, x1, x2, x3, x4⟩ := lies.two F0
    go_wp2_with fail
    refine (clock_no HJ.out _ _).mono ?_
    rintro e w3 ⟨rfl, hB3⟩
    have G1 := lies.on_call F1 hB3
    have GB := FB.trans (hB3.mono FB.size)
    clear F0 F1 FB hB3 x0 x1 x2 x3 x4
    obtain ⟨x0, x1, x2, x3, x4⟩ := lies.two G1
    go_wp2_with fail
    exact bodyPost_ret (v := .tuple #[.agg #[.int .i64 0, .slice none 0 0], .int .i64 2]) (by simp [results, Try.results9, go_sem, x0, x1]) rfl (Tells.err (dref.ret_res GB (by omega) _ _))
  · have HI := Lib.hid hi
    clear hi hc
    go_enter Try.func9, Try.ntmps9
    go_wp2_with fail
    refine C.out.mono ?_
    rintro e w1 ⟨rfl, hB1⟩
    have E0 := lies.on_call D0 hB1
    have E1 := lies.on_call D1 hB1
    have EB := DB.trans (hB1.mono DB.size)
    clear D0 D1 DB hB1 C
    obtain ⟨x0, x1, x2, x3, x4⟩ := lies.two E0
    go_wp2_with fail
    refine (clock_no HI.out _ _).mono ?_
    rintro e w2 ⟨rfl, hB2⟩
    have F1 := lies.on_call E1 hB2
    have FB := EB.trans (hB2.mono EB.size)
    clear E0 E1 EB hB2 x0 x1 x2 x3 x4
    obtain ⟨x0, x1, x2, x3, x4⟩ := lies.two F1
    go_wp2_with fail
    exact bodyPost_ret (v := .tuple #[.agg #[.int .i64 0, .slice none 0 0], .int .i64 2]) (by simp [results, Try.results9, go_sem, x0, x1]) rfl (Tells.err (dref.ret_res FB (by omega) _ _))

/-- a matrix of clock 0 alone may be just if its bound may. -/
theorem one_may (x : Int) : MayD 1 [x] ↔ Fine x := ⟨fun h => h.2.2.2 0 (by simp), fun h => ⟨by decide, by decide, by simp, fun p hp => by
  obtain rfl : p = 0 := by simpa using hp
  exact h⟩⟩
theorem one_top {x : Int} (h : x ≤ 9223372036854775807) : Tops [x] := fun y hy => by
  obtain rfl := List.mem_singleton.1 hy
  exact h
theorem one_ints {g : Nat} {W : World} {x : Int} (h : lies.Lies W g 26 #[.int .i64 x]) : law.Ints W.heap.size W (.slice (some ⟨g, 0, none⟩) 1 1) [x] := dlaw.own_ints (us := [x]) (cap := 1) h

theorem row_one {W : World} {g : Nat} {t : TypeId} {i j : Nat} {x : Int} (h : lies.Lies W g t #[.int .i64 (i : Int), .int .i64 (j : Int), .int .i64 x]) : RowM W g 0 [(i, j, x)] := fun k hk => by
  obtain rfl : k = 0 := by simpa using hk
  exact ⟨lies.cell h 0, lies.cell h 1, lies.cell h 2⟩
set_option maxRecDepth 100000 in
set_option maxHeartbeats 4000000 in
theorem set_fine (n : Nat) (i j : Nat) (x : Int) (b off cap : Nat) (ts : List Int) (w : World) (h0 : 0 < n) (hn : n ≤ 4) (hr : Row w b off ts) (hb : b < w.heap.size) (htop : Tops ts) (h : MayD n ts) (hl : ts.length = n * n) (hi : i < n) (hj : j < n) (hx : x ≤ 9223372036854775807) (Q : Option (List Int)) (hq : (Fine x ∧ Q = some (setT ts (i * n + j) x)) ∨ (¬ Fine x ∧ Q = none)) :
    Calls Try.prog 9 #[.agg #[.int .i64 n, .slice (some ⟨b, off, none⟩) (n * n) cap], .int .i64 i, .int .i64 j, .int .i64 x] w (Tells n Q 8 w) := by
  have hpp : 0 < n * n := Nat.mul_pos h0 h0
  have hsq := sq_le hn
  obtain ⟨DB, D0, D1⟩ := dref.box_res n (.slice (some ⟨b, off, none⟩) (n * n) cap) w
  have hI : law.Ints w.heap.size w (.slice (some ⟨b, off, none⟩) (n * n) cap) ts := .inr ⟨b, off, cap, by rw [hl], hb, hr⟩
  have C := Lib.hid (check_ok n _ ts _ ((hI.below DB).mono DB.size) htop h)
  have HI := Lib.hid (show Clk n i from ⟨by omega, by omega⟩)
  have HJ := Lib.hid (show Clk n j from ⟨by omega, by omega⟩)
  have HR := Lib.hid hr
  have HT := Lib.hid htop
  have HL := Lib.hid hl
  have HQ := Lib.hid hq
  clear hI hr htop h hl hq
  go_enter Try.func9, Try.ntmps9
  go_wp2_with fail
  refine C.out.mono ?_
  rintro e w1 ⟨rfl, hB1⟩
  have E0 := lies.on_call D0 hB1
  have E1 := lies.on_call D1 hB1
  have EB := DB.trans (hB1.mono DB.size)
  clear D0 D1 DB hB1 C
  obtain ⟨x0, x1, x2, x3, x4⟩ := lies.two E0
  go_wp2_with fail
  refine (clock_yes HI.out _ _).mono ?_
  rintro e w2 ⟨rfl, hB2⟩
  have F0 := lies.on_call E0 hB2
  have F1 := lies.on_call E1 hB2
  have FB := EB.trans (hB2.mono EB.size)
  clear E0 E1 EB hB2 x0 x1 x2 x3 x4
  obtain ⟨x0, x1, x2, x3, x4⟩ := lies.two F0
  go_wp2_with fail
  refine (clock_yes HJ.out _ _).mono ?_
  rintro e w3 ⟨rfl, hB3⟩
  have G0 := lies.on_call F0 hB3
  have G1 := lies.on_call F1 hB3
  have GB := FB.trans (hB3.mono FB.size)
  clear F0 F1 FB hB3 x0 x1 x2 x3 x4
  obtain ⟨x0, x1, x2, x3, x4⟩ := lies.two G0
  go_wp2_with fail
  have hB3s := GB.size
  have A1 := lies.made w3 26 #[.int .i64 x]
  have A0 := GB.alloc GB.size (.cells #[.int .i64 x] 26)
  have H0 := lies.on_alloc G0 (.cells #[.int .i64 x] 26)
  have H1 := lies.on_alloc G1 (.cells #[.int .i64 x] 26)
  clear G0 G1 GB x0 x1 x2 x3 x4
  rcases HQ.out with ⟨hf, rfl⟩ | ⟨hf, rfl⟩
  · refine (check_ok 1 _ [x] _ (one_ints A1) (one_top hx) ((one_may x).2 hf)).mono ?_
    rintro e w4 ⟨rfl, hB4⟩
    have I0 := lies.on_call H0 hB4
    have I1 := lies.on_call H1 hB4
    have IB := A0.trans (hB4.mono A0.size)
    clear H0 H1 A0 A1 hB4
    obtain ⟨x0, x1, x2, x3, x4⟩ := lies.two I0
    go_wp2_with fail
    have M1 := lies.made w4 60 #[.int .i64 i, .int .i64 j, .int .i64 x]
    have JB := IB.alloc IB.size (.cells #[.int .i64 i, .int .i64 j, .int .i64 x] 60)
    have J1 := lies.on_alloc I1 (.cells #[.int .i64 i, .int .i64 j, .int .i64 x] 60)
    have hs := lies.lt I1
    clear I0 I1 IB x0 x1 x2 x3 x4
    refine (with_any n b off cap w4.heap.size 0 1 1 ts [(i, j, x)] _ h0 hn (HR.out.below JB hb) (Nat.lt_of_lt_of_le hb JB.size) HT.out HL.out (row_one M1) (by simp) rfl (by decide) (fun k hk => by
      obtain rfl : k = 0 := by omega
      exact ⟨hi, hj⟩)).mono ?_
    rintro e w5 ⟨hB5, na, aa, la, ca, us, f, rfl, hA, hK⟩
    have L1 := lies.on_call J1 hB5
    have LB := JB.trans (hB5.mono JB.size)
    clear M1 JB J1 hB5
    obtain ⟨x0, x1, x2, x3, x4⟩ := lies.two L1
    go_wp2_with fail
    refine bodyPost_ret (v := .tuple #[.agg #[.int .i64 na, .slice aa la ca], .int .i64 f]) (by simp [results, Try.results9, go_sem, x0, x1]) rfl ⟨dref.ret_res LB (by omega) _ _, na, aa, la, ca, us, f, rfl, .inr ⟨_, rfl, hA⟩, ?_⟩
    have hq : w.heap.size + 1 < (w4.alloc (.cells #[.int .i64 i, .int .i64 j, .int .i64 x] 60)).heap.size := by simp; omega
    exact ((hK.far hq 0 _).far hq 1 _).mono (by omega)
  · refine (check_no 1 _ [x] _ (one_ints A1) (by simp) (one_top hx) (fun h => hf ((one_may x).1 h))).mono ?_
    rintro e w4 ⟨rfl, hB4⟩
    have I0 := lies.on_call H0 hB4
    have I1 := lies.on_call H1 hB4
    have IB := A0.trans (hB4.mono A0.size)
    have hf' := Lib.hid hf
    clear H0 H1 A0 A1 hB4 hf HQ
    obtain ⟨x0, x1, x2, x3, x4⟩ := lies.two I1
    go_wp2_with fail
    exact bodyPost_ret (v := .tuple #[.agg #[.int .i64 0, .slice none 0 0], .int .i64 8]) (by simp [results, Try.results9, go_sem, x0, x1]) rfl (Tells.err (dref.ret_res IB (by omega) _ _))

theorem set_any (n i j x : Int) (sv : Value) (ts : List Int) (w : World) (hI : law.Ints w.heap.size w sv ts) (hm : ts.length ≤ 1000000) (htop : Tops ts) (hx : x ≤ 9223372036854775807) :
    Calls Try.prog 9 #[.agg #[.int .i64 n, sv], .int .i64 i, .int .i64 j, .int .i64 x] w (Tells n (setQ n ts i j x) (setE n ts i j) w) := by
  unfold setQ setE
  by_cases h : MayD n ts
  · by_cases hc : Clk n i ∧ Clk n j
    · rw [show (if MayD n ts ∧ ¬ (Clk n i ∧ Clk n j) then (2 : Int) else 8) = 8 from if_neg (fun k => k.2 hc)]
      obtain ⟨m, rfl, h0, hn, hl⟩ := may_nat h
      obtain ⟨p, rfl⟩ : ∃ p : Nat, i = p := ⟨i.toNat, by have := hc.1.1; omega⟩
      obtain ⟨q, rfl⟩ : ∃ q : Nat, j = q := ⟨j.toNat, by have := hc.2.1; omega⟩
      have hpp : 0 < m * m := Nat.mul_pos h0 h0
      rcases hI with ⟨_, rfl⟩ | ⟨b, off, cap, rfl, hb, hr⟩
      · simp at hl; omega
      · rw [hl]
        refine set_fine m p q x b off cap ts w h0 hn hr hb htop h hl (by have := hc.1.2; omega) (by have := hc.2.2; omega) hx _ ?_
        by_cases hf : Fine x
        · rw [if_pos ⟨h, hc.1, hc.2, hf⟩]
          exact .inl ⟨hf, rfl⟩
        · rw [if_neg (fun k => hf k.2.2.2)]
          exact .inr ⟨hf, rfl⟩
    · rw [if_neg (fun k => hc ⟨k.2.1, k.2.2.1⟩), if_pos ⟨h, hc⟩]
      exact set_clock_no n i j x sv ts w hI hm htop h hc
  · rw [if_neg (fun k => h k.1), if_neg (fun k => h k.1)]
    exact set_may_no n i j x sv ts w hI hm htop h

theorem own_far {w : World} {base n s : Nat} {t : TypeId} {v : Value} {xs : List Value} (h : w.ownsRow base t s v n xs) {p : Addr} (hp : p.block < base) (u : Value) : (w.setCell p u).ownsRow base t s v n xs := by
  refine h.kept (row := some p.block) ⟨rfl, rfl, rfl, by simp, fun k hk hne => Below.heap_setCell w p u k (fun e => hne (by rw [e]))⟩ ?_
  cases hv : v.ownBlock with
  | none => exact .inl rfl
  | some k => exact .inr (fun e => by have := (h.lt k hv).1; have := Option.some.inj e; omega)
/-- a block of one cell is set in two worlds of which the one is the other's. -/
theorem set_below {base B : Nat} {t : TypeId} {v x : Value} {w X : World} (h : Below base w X) (hw : lies.Lies w B t #[v]) (hX : lies.Lies X B t #[x]) (u : Value) : Below base (w.setCell ⟨B, 0, none⟩ u) (X.setCell ⟨B, 0, none⟩ u) := by
  refine ⟨h.os, h.tape, h.output, by simpa using h.size, fun k hk => ?_⟩
  by_cases e : k = B
  · subst e
    have h1 : (X.setCell ⟨k, 0, none⟩ u).heap[k]? = _ := lies.on_put hX 0 u
    have h2 : (w.setCell ⟨k, 0, none⟩ u).heap[k]? = _ := lies.on_put hw 0 u
    rw [h1, h2]; rfl
  · rw [Below.heap_setCell X ⟨B, 0, none⟩ u k e, Below.heap_setCell w ⟨B, 0, none⟩ u k e]
    exact h.block k hk
theorem set_set {base B : Nat} {t : TypeId} {v x : Value} {w X Y : World} (hw : lies.Lies w B t #[v]) (hX : lies.Lies X B t #[x]) (h : Below base (w.setCell ⟨B, 0, none⟩ x) X) (u : Value) (k : Below base (X.setCell ⟨B, 0, none⟩ u) Y) : Below base (w.setCell ⟨B, 0, none⟩ u) Y := by
  have h0 : Below base (w.setCell ⟨B, 0, none⟩ u) (X.setCell ⟨B, 0, none⟩ u) := by
    refine ⟨h.os, h.tape, h.output, by simpa using h.size, fun q hq => ?_⟩
    by_cases e : q = B
    · subst e
      have h1 : (X.setCell ⟨q, 0, none⟩ u).heap[q]? = _ := lies.on_put hX 0 u
      have h2 : (w.setCell ⟨q, 0, none⟩ u).heap[q]? = _ := lies.on_put hw 0 u
      rw [h1, h2]; rfl
    · rw [Below.heap_setCell X ⟨B, 0, none⟩ u q e, Below.heap_setCell w ⟨B, 0, none⟩ u q e]
      exact (h.block q hq).trans (Below.heap_setCell w ⟨B, 0, none⟩ x q e)
  exact h0.trans k
theorem info_m : (Try.prog.info? 60).map (fun i => (i.zero, i.size, i.bytes)) = some (some (.agg #[.int .i64 0, .int .i64 0, .int .i64 0]), 3, 24) := by kernel_rfl
theorem three_new {W : World} {g : Nat} {t : TypeId} {x y z : Value} (h : lies.Lies W g t #[x, y, z]) (p : Nat) (u : Value) (hp : [x, y, z][p]? = some u) : W.cell? ((⟨g, 0, none⟩ : Addr).add p) = some u := by
  have := lies.cell h p
  rcases p with _ | _ | _ | p
  · cases hp; exact this
  · cases hp; exact this
  · cases hp; exact this
  · simp at hp
theorem own_slice {W : World} {base n : Nat} {t : TypeId} {s : Nat} {v : Value} {xs : List Value} (h : W.ownsRow base t s v n xs) : ∃ a l c, v = .slice a l c := by
  rcases Go.Joins.ownsRow_forms h with ⟨rfl, _⟩ | ⟨g, cap, rfl⟩
  · exact ⟨_, _, _, rfl⟩
  · exact ⟨_, _, _, rfl⟩
set_option maxRecDepth 100000 in
set_option maxHeartbeats 2000000 in
theorem meet1_any (i j x : Int) (B base k : Nat) (v : Value) (xs : List Value) (w : World) (hB : lies.Lies w B 61 #[v]) (hb : B < base) (hs : base ≤ w.heap.size) (hO : w.ownsRow base 60 3 v k xs) (hk : k ≤ 1000) :
    Calls Try.prog 27 #[.agg #[.int .i64 i, .int .i64 j, .int .i64 x], .pointer (some ⟨B, 0, none⟩)] w fun e w' => e = .returned (.tuple #[]) ∧ ∃ v', Below base (w.setCell ⟨B, 0, none⟩ v') w' ∧ w'.ownsRow base 60 3 v' (k + 1) (xs ++ [.int .i64 i, .int .i64 j, .int .i64 x]) := by
  obtain ⟨i0, hi, hz0, hz1, hz2⟩ := info_parts info_m
  have HI := Lib.hid (And.intro hi (And.intro hz0 (And.intro hz1 hz2)))
  clear hi hz0 hz1 hz2
  have c0 := lies.cell hB 0
  have f0 := lies.free hB 0
  have l0 := lies.lt hB
  have L2 := lies.on_alloc (lies.on_alloc hB (.cells #[.int .i64 i, .int .i64 j, .int .i64 x] 60)) (.cells #[.int .i64 i, .int .i64 j, .int .i64 x] 60)
  have M2 := lies.made_at (w.alloc (.cells #[.int .i64 i, .int .i64 j, .int .i64 x] 60)) 60 #[.int .i64 i, .int .i64 j, .int .i64 x] (w.heap.size + 1) (by simp)
  have O2 := (hO.alloc (.cells #[.int .i64 i, .int .i64 j, .int .i64 x] 60)).alloc (.cells #[.int .i64 i, .int .i64 j, .int .i64 x] 60)
  go_enter Try.func27, Try.ntmps27
  go_wp2_with (at_builtin; refine wpList_append_own _ rfl (.tmp 3) (.tmp 5) 61 rfl base 60 i0 (.agg #[.int .i64 0, .int .i64 0, .int .i64 0]) 3 24 Try.underlying61 HI.out.1 HI.out.2.1 HI.out.2.2.1 HI.out.2.2.2 rfl (by decide) _ _ _ rfl O2 ⟨w.heap.size + 1, 0, none⟩ 1 1 [.int .i64 i, .int .i64 j, .int .i64 x] rfl rfl (three_new M2) (by simp [Value.oneCell']) (by unfold maxLen; omega) (by omega) (by simp; omega) ?_; intro v' w1 hown' hgrow _; obtain ⟨a', l', c', rfl⟩ := own_slice hown'; have N1 : lies.Lies w1 B 61 #[v] := (World.grownBy.block hgrow B (lies.lt L2) (fun e => by have := (hO.lt B e.symm).1; omega)).trans L2; have NB : Below base w w1 := (bound.up2 w (.cells #[.int .i64 i, .int .i64 j, .int .i64 x] 60) (.cells #[.int .i64 i, .int .i64 j, .int .i64 x] 60)).mono hs |>.grown hgrow (by simp; omega) (fun q e => (hO.lt q e).1); have c1 := lies.cell N1 0; have f1 := lies.free N1 0; have l1 := lies.lt N1)
  go_end0
  exact ⟨rfl, _, set_below NB hB N1 _, own_far hown' (p := ⟨B, 0, none⟩) hb _⟩

/-- the bounds of a matrix, each with its clocks. -/
def moOf (n : Nat) (us : List Int) : List Mo := (List.range us.length).map fun p => (p / n, p % n, us[p]?.getD 0)
def flatM (ms : List Mo) : List Value := ms.flatMap fun m => [.int .i64 (m.1 : Int), .int .i64 (m.2.1 : Int), .int .i64 m.2.2]
theorem moOf_length (n : Nat) (us : List Int) : (moOf n us).length = us.length := by simp [moOf]
theorem moOf_at (n : Nat) (us : List Int) {p : Nat} (h : p < us.length) : mo (moOf n us) p = (p / n, p % n, us[p]?.getD 0) := by
  unfold mo moOf
  rw [List.getElem?_map, List.getElem?_range h]; rfl
theorem flat_up (ms : List Mo) (k : Nat) (h : k < ms.length) : flatM (ms.take (k + 1)) = flatM (ms.take k) ++ [.int .i64 ((mo ms k).1 : Int), .int .i64 ((mo ms k).2.1 : Int), .int .i64 (mo ms k).2.2] := by
  unfold flatM mo
  rw [← List.take_append_getElem h, List.flatMap_append, List.getElem?_eq_getElem h]
  rfl

/-- what lies there while they are handed out. -/
def EachI (n B : Nat) (us : List Int) (W0 : World) (k : Nat) (W : World) : Prop := ∃ v, Below W0.heap.size (W0.setCell ⟨B, 0, none⟩ v) W ∧ W.ownsRow W0.heap.size 60 3 v k (flatM ((moOf n us).take k))
theorem put_own {W : World} {B n : Nat} {t : TypeId} {v : Value} (h : lies.Lies W B t #[v]) : Below n (W.setCell ⟨B, 0, none⟩ v) W := by
  refine ⟨rfl, rfl, rfl, by simp, fun q _ => ?_⟩
  by_cases e : q = B
  · subst e
    have h2 : (W.setCell ⟨q, 0, none⟩ v).heap[q]? = _ := lies.on_put h 0 v
    have h1 : W.heap[q]? = _ := h
    rw [h1, h2]; rfl
  · exact (Below.heap_setCell W ⟨B, 0, none⟩ v q e).symm
set_option maxRecDepth 100000 in
set_option maxHeartbeats 4000000 in
theorem each_any (n b off cap B : Nat) (us : List Int) (w : World) (h0 : 0 < n) (hn : n ≤ 4) (hr : Row w b off us) (hb : b < w.heap.size) (hl : us.length = n * n) (hB : lies.Lies w B 61 #[.slice none 0 0]) (hbB : b ≠ B) :
    Calls Try.prog 26 #[.agg #[.int .i64 n, .slice (some ⟨b, off, none⟩) (n * n) cap], .func (.func 27) #[] #[.pointer (some ⟨B, 0, none⟩)]] w fun e w' => e = .returned (.tuple #[]) ∧ ∃ v', Below w.heap.size (w.setCell ⟨B, 0, none⟩ v') w' ∧ w'.ownsRow w.heap.size 60 3 v' (n * n) (flatM (moOf n us)) := by
  have hsq := sq_le hn
  have K0 := up1 w (.cells #[.int .i64 n, .slice (some ⟨b, off, none⟩) (n * n) cap] 24)
  have D0 := lies.made w 24 #[.int .i64 n, .slice (some ⟨b, off, none⟩) (n * n) cap]
  have B0 := lies.on_alloc hB (.cells #[.int .i64 n, .slice (some ⟨b, off, none⟩) (n * n) cap] 24)
  have R0 := hr.below K0 hb
  have hBw := lies.lt hB
  have hbw : b < w.heap.size + 1 := by omega
  have HK := Lib.hid K0
  have HL := Lib.hid hl
  have HB := Lib.hid hB
  have hM : (moOf n us).length = n * n := (moOf_length n us).trans hl
  have HM := Lib.hid hM
  clear hr hl hB K0 hM
  go_enter Try.func26, Try.ntmps26
  go_wp2_with fail
  have hs0 : (w.alloc (.cells #[.int .i64 n, .slice (some ⟨b, off, none⟩) (n * n) cap] 24)).heap.size = w.heap.size + 1 := World.size_alloc _ _
  have HS := Lib.hid hs0
  generalize hW0 : w.alloc (.cells #[.int .i64 n, .slice (some ⟨b, off, none⟩) (n * n) cap] 24) = W0 at D0 B0 R0 hs0 HS HK ⊢
  clear hs0
  have I0 : EachI n B us W0 0 W0 := ⟨_, put_own B0, World.ownsRow_nil _ _ _ _⟩
  have HD := Lib.hid D0
  have HB0 := Lib.hid B0
  have HR0 := Lib.hid R0
  clear hW0 D0 B0 R0
  go_loopw [9] (fun i wr => ∃ k : Nat, k ≤ n * n ∧ i = .int .i64 k ∧ EachI n B us W0 k wr) (fun i _ => n * n - (intOf i).toNat)
  case atStart => exact ⟨0, Nat.zero_le _, rfl, I0⟩
  case round =>
    clear I0
    obtain ⟨k, hk, rfl, v, hA, hO⟩ := hrel
    have D1 := lies.on_call (lies.on_far HD.out (b := B) 0 (by omega) v) (hA.mono (by simp))
    have B1 := lies.on_call (lies.on_put HB0.out 0 v) (hA.mono (by simp))
    by_cases hkn : k < n * n
    · have R1 : Row (W0.setCell ⟨B, 0, none⟩ v) b off us := fun p hp => (World.cell?_of_block (Below.heap_setCell W0 ⟨B, 0, none⟩ v b hbB)).trans (HR0.out p hp)
      have hc := (R1.below hA (by simp [HS.out]; omega)) k (by rw [HL.out]; exact hkn)
      have hup := flat_up (moOf n us) k (by rw [HM.out]; exact hkn)
      rw [moOf_at n us (by rw [HL.out]; exact hkn)] at hup
      dsimp only at hup
      generalize us[k]?.getD 0 = x at hc hup
      have q1 : (k : Int) / n = ((k / n : Nat) : Int) := (Int.natCast_ediv k n).symm
      have q2 : (k : Int).tmod n = ((k % n : Nat) : Int) := by rw [Int.tmod_eq_emod_of_nonneg (by omega)]; exact (Int.natCast_emod k n).symm
      have hP : k / n ≤ k := Nat.div_le_self _ _
      generalize k / n = P at q1 hup hP
      generalize k % n = R at q2 hup
      have q3 : ¬ n = 0 := by omega
      have q4 : IntKind.i64.wrap (P : Int) = P := IntWalk.i64_in _ ⟨by omega, by omega⟩
      have q5 := q4
      rw [IntWalk.i64_left] at q5
      have hkk : (k : Int) < (n : Int) * n := by rw [← Int.natCast_mul]; omega
      have hbr : b < wr.heap.size := by have := hA.size; simp [HS.out] at this; omega
      have HUP := Lib.hid hup
      have hsz := hA.size
      simp only [World.size_setCell] at hsz
      clear R1 hup
      obtain ⟨c0, c1, c2, c3, c4⟩ := lies.two D1
      go_wp2_with fail
      refine wp_region_held_drew (S := fun W => W.cell? ⟨w.heap.size, 0, none⟩ = some (.int .i64 n)) (by kernel_rfl) (lies.two (lies.on_call D1 (dbm.drawn1 (Below.refl _ _)))).1 (fun hHeld => ?_)
      refine wpAnyH_take (i := 0) (v := ?_) rfl (by kernel_rfl) (by kernel_rfl) (by kernel_rfl) (fun _ _ _ h => h) (Or.inl ⟨by rfl, ?_⟩) hHeld ?_
      rotate_left
      · intro w hSw; have s0 := hSw; go_simp; try with_reducible rfl
      try simp only [Act.put, List.getElem_toArray, List.getElem_cons_zero, List.getElem_cons_succ, List.setIfInBounds_toArray, List.set_cons_zero, List.set_cons_succ]
      refine wpAnyH_take (i := 1) (v := ?_) rfl (by kernel_rfl) (by kernel_rfl) (by kernel_rfl) (fun _ _ _ h => h) (Or.inl ⟨by rfl, ?_⟩) hHeld ?_
      rotate_left
      · intro w hSw; have s0 := hSw; go_simp; try with_reducible rfl
      try simp only [Act.put, List.getElem_toArray, List.getElem_cons_zero, List.getElem_cons_succ, List.setIfInBounds_toArray, List.set_cons_zero, List.set_cons_succ]
      refine wpAnyH_take (i := 2) (v := ?_) rfl (by kernel_rfl) (by kernel_rfl) (by kernel_rfl) (fun _ _ _ h => h) (Or.inl ⟨by rfl, ?_⟩) hHeld ?_
      rotate_left
      · intro w hSw; have s0 := hSw; go_simp; try with_reducible rfl
      try simp only [Act.put, List.getElem_toArray, List.getElem_cons_zero, List.getElem_cons_succ, List.setIfInBounds_toArray, List.set_cons_zero, List.set_cons_succ]
      refine wpAnyH_take (i := 3) (v := ?_) rfl (by kernel_rfl) (by kernel_rfl) (by kernel_rfl) (fun _ _ _ h => h) (Or.inl ⟨by rfl, ?_⟩) hHeld ?_
      rotate_left
      · intro w hSw; have s0 := hSw; go_simp; try with_reducible rfl
      try simp only [Act.put, List.getElem_toArray, List.getElem_cons_zero, List.getElem_cons_succ, List.setIfInBounds_toArray, List.set_cons_zero, List.set_cons_succ]
      refine wpAnyH_take (i := 4) (v := ?_) rfl (by kernel_rfl) (by kernel_rfl) (by kernel_rfl) (fun _ _ _ h => h) (Or.inl ⟨by rfl, ?_⟩) hHeld ?_
      rotate_left
      · intro w hSw; have s0 := hSw; go_simp; try with_reducible rfl
      try simp only [Act.put, List.getElem_toArray, List.getElem_cons_zero, List.getElem_cons_succ, List.setIfInBounds_toArray, List.set_cons_zero, List.set_cons_succ]
      refine wpAnyH_take (i := 5) (v := ?_) rfl (by kernel_rfl) (by kernel_rfl) (by kernel_rfl) (fun _ _ _ h => h) (Or.inl ⟨by rfl, ?_⟩) hHeld ?_
      rotate_left
      · intro w hSw; have s0 := hSw; go_simp; try with_reducible rfl
      try simp only [Act.put, List.getElem_toArray, List.getElem_cons_zero, List.getElem_cons_succ, List.setIfInBounds_toArray, List.set_cons_zero, List.set_cons_succ]
      refine wpAnyH_take (i := 6) (v := ?_) rfl (by kernel_rfl) (by kernel_rfl) (by kernel_rfl) (fun _ _ _ h => h) (Or.inl ⟨by rfl, ?_⟩) hHeld ?_
      rotate_left
      · intro w hSw; have s0 := hSw; go_simp; try with_reducible rfl
      try simp only [Act.put, List.getElem_toArray, List.getElem_cons_zero, List.getElem_cons_succ, List.setIfInBounds_toArray, List.set_cons_zero, List.set_cons_succ]
      refine wpAnyH_take (i := 7) (v := ?_) rfl (by kernel_rfl) (by kernel_rfl) (by kernel_rfl) (fun _ _ _ h => h) (Or.inl ⟨by rfl, ?_⟩) hHeld ?_
      rotate_left
      · intro w hSw; have s0 := hSw; go_simp; try with_reducible rfl
      try simp only [Act.put, List.getElem_toArray, List.getElem_cons_zero, List.getElem_cons_succ, List.setIfInBounds_toArray, List.set_cons_zero, List.set_cons_succ]
      refine wpAnyH_take (i := 8) (v := ?_) rfl (by kernel_rfl) (by kernel_rfl) (by kernel_rfl) (fun _ _ _ h => h) (Or.inl ⟨by rfl, ?_⟩) hHeld ?_
      rotate_left
      · intro w hSw; have s0 := hSw; go_simp; try with_reducible rfl
      try simp only [Act.put, List.getElem_toArray, List.getElem_cons_zero, List.getElem_cons_succ, List.setIfInBounds_toArray, List.set_cons_zero, List.set_cons_succ]
      refine wpAnyH_take (i := 9) (v := ?_) rfl (by kernel_rfl) (by kernel_rfl) (by kernel_rfl) (fun _ _ _ h => h) (Or.inl ⟨by rfl, ?_⟩) hHeld ?_
      rotate_left
      · intro w hSw; have s0 := hSw; go_simp; try with_reducible rfl
      try simp only [Act.put, List.getElem_toArray, List.getElem_cons_zero, List.getElem_cons_succ, List.setIfInBounds_toArray, List.set_cons_zero, List.set_cons_succ]
      refine wpAnyH_take (i := 10) (v := ?_) rfl (by kernel_rfl) (by kernel_rfl) (by kernel_rfl) (fun _ _ _ h => h) (Or.inl ⟨by rfl, ?_⟩) hHeld ?_
      rotate_left
      · intro w hSw; have s0 := hSw; go_simp; try with_reducible rfl
      try simp only [Act.put, List.getElem_toArray, List.getElem_cons_zero, List.getElem_cons_succ, List.setIfInBounds_toArray, List.set_cons_zero, List.set_cons_succ]
      refine wpAnyH_ready (rs := [11]) (by kernel_rfl) (by simp) (AllReadyH.cons rfl (fun K hK => ?_) AllReadyH.nil)
      go_simp
      refine (meet1_any P R x B W0.heap.size k v _ wr.drew (lies.on_drew B1) (by simp [HS.out]; omega) (by simpa using hsz) (hO.kept (row := none) ⟨rfl, rfl, rfl, Nat.le_refl _, fun _ _ _ => rfl⟩ (by cases v.ownBlock <;> simp)) (by omega)).mono ?_
      rintro e w1 ⟨rfl, v', hB1, hO1⟩
      have hA1 := set_set HB0.out (lies.on_drew B1) (hA.trans ⟨rfl, rfl, rfl, Nat.le_refl _, fun _ _ => rfl⟩) v' hB1
      rw [← HUP.out] at hO1
      have D2 := lies.on_call (lies.on_far HD.out (b := B) 0 (by omega) v') (hA1.mono (by simp))
      refine hK.out _ _ (lies.two D2).1 (fun hNew => ?_)
      clear hHeld hK K hNew D1 B1 hB1 hO hA c0 c1 c2 c3 c4
      refine wpAnyH_done (by kernel_rfl) ?_ _
      go_wp2_with fail
      go_roundw
      case rel => exact ⟨k + 1, by omega, by go_num, v', hA1, hO1⟩
      case measure => simp [intOf]; omega
    · obtain rfl : n * n = k := by omega
      have htk : (moOf n us).take (n * n) = moOf n us := by rw [← HM.out]; exact List.take_length
      rw [htk] at hO
      go_wp2_with fail
      go_end0
      exact ⟨rfl, v, (set_below HK.out HB.out HB0.out v).trans (hA.mono (by rw [HS.out]; omega)), Go.Joins.ownsRow_le hO (by rw [HS.out]; omega)⟩

theorem flat_at3 (ms : List Mo) (k : Nat) (h : k < ms.length) : (flatM ms)[k * 3]? = some (.int .i64 ((mo ms k).1 : Int)) ∧ (flatM ms)[k * 3 + 1]? = some (.int .i64 ((mo ms k).2.1 : Int)) ∧ (flatM ms)[k * 3 + 2]? = some (.int .i64 (mo ms k).2.2) := by
  induction ms generalizing k with
  | nil => simp at h
  | cons m ms ih =>
    cases k with
    | zero => exact ⟨rfl, rfl, rfl⟩
    | succ k =>
      have := ih k (by simpa using h)
      have e : mo (m :: ms) (k + 1) = mo ms k := by simp [mo]
      rw [e]
      have f : ∀ r, (flatM (m :: ms))[(k + 1) * 3 + r]? = (flatM ms)[k * 3 + r]? := fun r => by
        have : (k + 1) * 3 + r = k * 3 + r + 3 := by omega
        rw [this]; rfl
      exact ⟨(f 0).trans this.1, (f 1).trans this.2.1, (f 2).trans this.2.2⟩
theorem flatM_length (ms : List Mo) : (flatM ms).length = ms.length * 3 := by
  induction ms with
  | nil => rfl
  | cons m ms ih => show ([_, _, _] ++ flatM ms).length = _; rw [List.length_append, ih]; simp; omega
theorem own_rowM {W : World} {base g m cap : Nat} {t : TypeId} {ms : List Mo} (h : W.ownsRow base t 3 (.slice (some ⟨g, 0, none⟩) m cap) m (flatM ms)) (hl : ms.length = m) : RowM W g 0 ms := fun k hk => by
  have := flat_at3 ms k hk
  rw [Nat.zero_add]
  exact ⟨(h.cellAt _ (by omega)).trans this.1, (h.cellAt _ (by omega)).trans this.2.1, (h.cellAt _ (by omega)).trans this.2.2⟩

/-- the bounds of another matrix put in are the lesser ones of both. -/
theorem setAll_of {n : Nat} {ts us : List Int} (h0 : 0 < n) (hl : ts.length = us.length) : setAll n ts (moOf n us) = lesT ts us := by
  have key : ∀ k, k ≤ us.length → ∀ q, q < ts.length → (setAll n ts ((moOf n us).take k))[q]?.getD 0 = if q < k then lsr (ts[q]?.getD 0) (us[q]?.getD 0) else ts[q]?.getD 0 := by
    intro k
    induction k with
    | zero => intro _ q _; rfl
    | succ k ih =>
      intro hk q hq
      rw [setAll_up n ts _ k (by rw [moOf_length]; omega), moOf_at n us (by omega)]
      dsimp only
      rw [Nat.div_add_mod' k n, setT_at _ _ (by rw [setAll_length]; exact hq), ih (by omega) q hq]
      by_cases e : k = q
      · subst e
        rw [if_pos rfl, if_neg (by omega), if_pos (by omega)]
      · rw [if_neg e]
        by_cases c : q < k
        · rw [if_pos c, if_pos (by omega)]
        · rw [if_neg c, if_neg (by omega)]
  have := key us.length (Nat.le_refl _)
  rw [show (moOf n us).take us.length = moOf n us by rw [← moOf_length n us]; exact List.take_length] at this
  refine list_at (by rw [setAll_length, lesT_length]) fun q hq => ?_
  rw [setAll_length] at hq
  rw [this q hq, if_pos (by omega), lesT_at _ _ hq]
end Go.Proofs.Ytallgbpijndmeaa.tight
