
/-
  The range function minus.pieces: what it yields; its conditions are named.
-/
import Derived.Test.YthmljpccbjolgaaGreatDoorMinusD
namespace Go.Proofs.YthmljpccbjolgaaGreatDoor.minus
open Go.Joins Go.ChangeShapes Go.WideShapes Go.ChangeAt Go.RowKit Go.Shelf num rat dbm Go.Proofs.YthmljpccbjolgaaGreatDoor.tight Go.Proofs.YthmljpccbjolgaaGreatDoor.plaw Go.Proofs.YthmljpccbjolgaaGreatDoor.zopen Go.Proofs.YthmljpccbjolgaaGreatDoor.zone Go.Proofs.YthmljpccbjolgaaGreatDoor.win
open bound hiding up
attribute [local go_sem] Oper.semAt_some
set_option linter.unusedVariables false
set_option linter.unusedSimpArgs false
set_option maxRecDepth 100000 in
set_option maxHeartbeats 16000000 in
theorem pieces1_in (n l Bl A B : Nat) (hn : 1 ≤ n) (a0 a1 a2 a3 a4 a5 b0 b1 b2 b3 b4 b5 : Int) (J Jx : List (List Int × Int) → World → Prop) (W : World) (hP : Pl W) (hA : lies.Lies W A 27 #[.int .i64 a0, .int .i64 a1, .int .i64 a2, .int .i64 a3, .int .i64 a4, .int .i64 a5]) (hB : lies.Lies W B 27 #[.int .i64 b0, .int .i64 b1, .int .i64 b2, .int .i64 b3, .int .i64 b4, .int .i64 b5]) (za : Zo [a0, a1, a2, a3, a4, a5]) (zb : Zo [b0, b1, b2, b3, b4, b5])
    (hBl : Bl < W.heap.size) (hrow : ∀ q, rowAt Bl W q → q < W.heap.size) (hJ : mine.Abides (rowAt Bl) W.heap.size J)
    (hY : ∀ pre x W1, J pre W1 → pre.length < 7 → YieldAt Fence.wide (n - 1) Tryz.prog l (encs x) W1 fun e W' => (e = .returned (.bool true) ∧ J (pre ++ [x]) W' ∧ Kp Bl W1 W') ∨ (e = .returned (.bool false) ∧ Jx (pre ++ [x]) W'))
    (h0 : J [] W) :
    CallsIn Fence.wide n Tryz.prog 210 #[.func (.yield l) #[] #[], .pointer (some ⟨A, 0, none⟩), .pointer (some ⟨B, 0, none⟩)] W fun e W' => (∃ v, e = .returned v) ∧
      ((∃ ys, PcsR [b0, b1, b2, b3, b4, b5] 6 [a0, a1, a2, a3, a4, a5] ys ∧ J ys W') ∨ (∃ pre, (∃ t, PcsR [b0, b1, b2, b3, b4, b5] 6 [a0, a1, a2, a3, a4, a5] (pre ++ t)) ∧ Jx pre W')) := by
  have R0 : W.heap.size ≠ 1 := fun e => by have := hP.1; omega
  have HZA := Lib.hid za
  have HZB := Lib.hid zb
  have HJ := Lib.hid hJ
  have HY := Lib.hid hY
  have HR := Lib.hid hrow
  clear za zb hJ hY hrow
  refine callsIn_of_wp Tryz.func210 rfl trivial ?_ rfl
  simp only [Tryz.ntmps210, List.size_toArray, List.length_cons, List.length_nil, Nat.reduceAdd, Nat.reduceSub, Array.replicate_succ, Array.replicate_zero, List.push_toArray, List.append_toArray, List.nil_append, List.cons_append]
  obtain ⟨⟨x0, x1, x2, x3, x4, x5⟩, -, xl⟩ := six_cells hA
  obtain ⟨⟨u0, u1, u2, u3, u4, u5⟩, -, ul⟩ := six_cells hB
  gi_wp2
  clear x0 x1 x2 x3 x4 x5 xl u0 u1 u2 u3 u4 u5 ul
  have J1 : J [] (W.alloc (.cells #[.int .i64 a0, .int .i64 a1, .int .i64 a2, .int .i64 a3, .int .i64 a4, .int .i64 a5] 27)) := HJ.out _ _ _ none h0 (grown_of (bound.up1 _ _)) (fun r e => by cases e)
  have B1 := bound.up1 W (.cells #[.int .i64 a0, .int .i64 a1, .int .i64 a2, .int .i64 a3, .int .i64 a4, .int .i64 a5] 27)
  have I1 : It Bl W.heap.size a0 a1 a2 a3 a4 a5 (W.alloc (.cells #[.int .i64 a0, .int .i64 a1, .int .i64 a2, .int .i64 a3, .int .i64 a4, .int .i64 a5] 27)) := by
    have e := B1.block Bl hBl
    exact ⟨lies.made _ _ _, hP.on B1, fun q => by have := HR.out _ ((row_far e _).1 q); omega, fun q hq => Nat.lt_of_lt_of_le (HR.out q ((row_far e q).1 hq)) B1.size, Nat.lt_of_lt_of_le hBl B1.size, by omega⟩
  have hRR : W.heap.size ≤ W.heap.size := Nat.le_refl _
  clear hA hB hP h0
  generalize hX : W.alloc (.cells #[.int .i64 a0, .int .i64 a1, .int .i64 a2, .int .i64 a3, .int .i64 a4, .int .i64 a5] 27) = wX at J1 B1 I1 ⊢
  clear hX
  gi_loopw [14] (fun i wr => ∃ (k : Nat) (pre : List (List Int × Int)) (r0 r1 r2 r3 r4 r5 : Int), k ≤ 6 ∧ i = .int .i64 k ∧ J pre wr ∧ pre.length ≤ k ∧ Zo [r0, r1, r2, r3, r4, r5] ∧ (∀ t, PcsR [b0, b1, b2, b3, b4, b5] (6 - k) [r0, r1, r2, r3, r4, r5] t → PcsR [b0, b1, b2, b3, b4, b5] 6 [a0, a1, a2, a3, a4, a5] (pre ++ t)) ∧ It Bl W.heap.size r0 r1 r2 r3 r4 r5 wr) (fun i _ => 6 - (intOf i).toNat)
  case atStart => exact ⟨0, [], a0, a1, a2, a3, a4, a5, Nat.zero_le _, rfl, J1, Nat.le_refl _, HZA.out, fun t ht => ht, I1⟩
  case round =>
    clear J1 B1 I1
    obtain ⟨k, pre, r0, r1, r2, r3, r4, r5, hk, rfl, hj, hp, hz, hc, hI⟩ := hrel
    have HZ := Lib.hid hz
    have HC := Lib.hid hc
    clear hz hc
    have tb := HZB.out.2.1
    have mb : ∀ i, i < 6 → Fine ([b0, b1, b2, b3, b4, b5][i]?.getD 0) := comp.six_fine HZB.out.1.may
    have tz := HZ.out.2.1
    have MB := Lib.hid mb
    have TB := Lib.hid tb
    have TZ := Lib.hid tz
    clear mb tb tz
    rcases (by omega : k = 0 ∨ k = 1 ∨ k = 2 ∨ k = 3 ∨ k = 4 ∨ k = 5 ∨ k = 6) with rfl | rfl | rfl | rfl | rfl | rfl | rfl
    · -- place 0
      have fb : Fine b0 := MB.out 0 (by decide)
      have tbk : b0 ≤ 9223372036854775807 := fine_le fb
      obtain ⟨⟨c0, c1, c2, c3, c4, c5⟩, ⟨f0, f1, f2, f3, f4, f5⟩, xl⟩ := six_cells hI.1
      have hix : ∀ w : World, (Instr.index 27 (.agg #[.int .i64 b0, .int .i64 b1, .int .i64 b2, .int .i64 b3, .int .i64 b4, .int .i64 b5]) (.int .i64 0)).run Tryz.prog w = .ok (.int .i64 b0) w := fun w => by kernel_rfl
      have hbx : bits BinOp.xor IntKind.i64 0 1 = 1 := by decide
      by_cases h1 : r0 ≤ b0
      · clear fb tbk
        gi_wp2
        go_roundw
        case rel => exact ⟨1, pre, r0, r1, r2, r3, r4, r5, by omega, rfl, hj, by omega, HZ.out, fun t ht => HC.out t (.inl ⟨h1, ht⟩), hI⟩
        case measure => simp [intOf]
      · have h1' : b0 < r0 := by omega
        have hn : b0 ≠ 9223372036854775807 := by have := get_top TZ.out 0; have : r0 ≤ 9223372036854775807 := this; omega
        obtain ⟨en, fn, nn⟩ := not_is fb hn
        have EN := Lib.hid en
        have FN := Lib.hid fn
        have FB := Lib.hid fb
        have HN := Lib.hid hn
        have NN := Lib.hid nn
        clear en fn nn hn fb
        gi_wp2
        refine ⟨trivial, callsIn_wide.2 ((not_any b0 _ tbk).mono ?_)⟩
        rintro e w1 ⟨rfl, hB1⟩
        rw [EN.out]
        generalize valE b0 = ve
        replace hj := HJ.out _ _ _ none hj (grown_of hB1) (fun r e => by cases e)
        replace hI := hI.below hB1
        clear hB1 c0 c1 c2 c3 c4 c5 f0 f1 f2 f3 f4 f5 xl tbk
        obtain ⟨⟨c0, c1, c2, c3, c4, c5⟩, ⟨f0, f1, f2, f3, f4, f5⟩, xl⟩ := six_cells hI.1
        by_cases h2 : r1 ≤ 1 - b0
        · obtain ⟨fn, tmps, assign, body, hy, hR⟩ := HY.out pre ([r0, r1, r2, r3, r4, r5], 0) w1 hj (by omega)
          simp only [encs, mz.zval, List.getElem?_cons_zero, List.getElem?_cons_succ, Option.getD_some] at hy
          gi_wp2
          refine hR.mono ?_
          rintro e W3 (⟨rfl, hJ3, hk3⟩ | ⟨rfl, hJx3⟩)
          · gi_wp2
            refine bodyPost_ret (results_none rfl _ _ _) rfl ?_
            exact ⟨⟨_, rfl⟩, .inl ⟨_, HC.out _ (.inr (.inl ⟨h1', h2, rfl⟩)), hJ3⟩⟩
          · gi_wp2
            refine bodyPost_ret (results_none rfl _ _ _) rfl ?_
            exact ⟨⟨_, rfl⟩, .inr ⟨_, ⟨[], by rw [List.append_nil]; exact HC.out _ (.inr (.inl ⟨h1', h2, rfl⟩))⟩, hJx3⟩⟩
        · have h2' : 1 - b0 < r1 := by omega
          gi_wp2
          have htw : Tops [r0, (1 - b0), r2, r3, r4, r5] := tops_set (i := 1) (v := 1 - b0) TZ.out (fine_le FN.out)
          have hmw : MayD 3 (fullT [r0, (1 - b0), r2, r3, r4, r5]) := may_set (i := 1) (v := 1 - b0) HZ.out.1.may rfl FN.out
          refine ⟨trivial, callsIn_wide.2 ((with_1 r0 r1 r2 r3 r4 r5 (1 - b0) w1 hI.2.1 htw hmw).mono ?_)⟩
          rintro e w2 ⟨hB2, y0, y1, y2, y3, y4, y5, f, rfl, hO⟩
          replace hj := HJ.out _ _ _ none hj (grown_of hB2) (fun r e => by cases e)
          replace hI := hI.below hB2
          have HCUT := Lib.hid (with_cut (i := 1) (v := 1 - b0) HZ.out (by decide) FN.out (Int.le_of_lt h2') hO)
          clear hO htw hmw hB2 c0 c1 c2 c3 c4 c5 f0 f1 f2 f3 f4 f5 xl h2
          have hA := bound.up1 w2 (.cells #[.int .i64 y0, .int .i64 y1, .int .i64 y2, .int .i64 y3, .int .i64 y4, .int .i64 y5] 27)
          have hIA := hI.below hA
          have hjA := HJ.out _ _ _ none hj (grown_of hA) (fun r e => by cases e)
          clear hA hj
          have hge := hI.2.2.2.2.1
          rcases cut_eight (i := 1) HZ.out (by decide) FN.out NN.out (by show 1 - (1 - b0) < r0; omega) HCUT.out with rfl | rfl
          · obtain ⟨fn, tmps, assign, body, hy, hR⟩ := HY.out pre ([y0, y1, y2, y3, y4, y5], 8) _ hjA (by omega)
            simp only [encs, mz.zval, List.getElem?_cons_zero, List.getElem?_cons_succ, Option.getD_some] at hy
            gi_wp2
            refine hR.mono ?_
            rintro e W3 (⟨rfl, hJ3, hk3⟩ | ⟨rfl, hJx3⟩)
            · gi_wp2
              refine bodyPost_ret (results_none rfl _ _ _) rfl ?_
              exact ⟨⟨_, rfl⟩, .inl ⟨_, HC.out _ (.inr (.inr ⟨h1', h2', _, _, HCUT.out, .inl ⟨by decide, rfl⟩⟩)), hJ3⟩⟩
            · gi_wp2
              refine bodyPost_ret (results_none rfl _ _ _) rfl ?_
              exact ⟨⟨_, rfl⟩, .inr ⟨_, ⟨[], by rw [List.append_nil]; exact HC.out _ (.inr (.inr ⟨h1', h2', _, _, HCUT.out, .inl ⟨by decide, rfl⟩⟩))⟩, hJx3⟩⟩
          · obtain ⟨fn, tmps, assign, body, hy, hR⟩ := HY.out pre ([y0, y1, y2, y3, y4, y5], 0) _ hjA (by omega)
            simp only [encs, mz.zval, List.getElem?_cons_zero, List.getElem?_cons_succ, Option.getD_some] at hy
            gi_wp2
            refine hR.mono ?_
            rintro e W3 (⟨rfl, hJ3, hk3⟩ | ⟨rfl, hJx3⟩)
            · replace hI := hIA.round hk3
              clear hk3 hIA hjA hy hR hge
              have htw : Tops [b0, r1, r2, r3, r4, r5] := tops_set (i := 0) (v := b0) TZ.out (fine_le FB.out)
              have hmw : MayD 3 (fullT [b0, r1, r2, r3, r4, r5]) := may_set (i := 0) (v := b0) HZ.out.1.may rfl FB.out
              obtain ⟨⟨c0, c1, c2, c3, c4, c5⟩, ⟨f0, f1, f2, f3, f4, f5⟩, xl⟩ := six_cells hI.1
              have HT := Lib.hid htw
              have HM := Lib.hid hmw
              clear htw hmw
              gi_wp2
              refine ⟨trivial, callsIn_wide.2 ((with_0 r0 r1 r2 r3 r4 r5 b0 W3 hI.2.1 HT.out HM.out).mono ?_)⟩
              rintro e w4 ⟨hB4, z0, z1, z2, z3, z4, z5, g, rfl, hO⟩
              replace hJ3 := HJ.out _ _ _ none hJ3 (grown_of hB4) (fun r e => by cases e)
              replace hI := hI.below hB4
              have HCUZ := Lib.hid (with_cut (i := 0) (v := b0) HZ.out (by decide) FB.out (Int.le_of_lt h1') hO)
              clear hO hB4 HT HM c0 c1 c2 c3 c4 c5 f0 f1 f2 f3 f4 f5 xl
              obtain ⟨⟨c0, c1, c2, c3, c4, c5⟩, ⟨f0, f1, f2, f3, f4, f5⟩, xl⟩ := six_cells hI.1
              have hJ4 := HJ.out _ _ _ (some W.heap.size) hJ3 (grown_six w4 W.heap.size (.int .i64 z0) (.int .i64 z1) (.int .i64 z2) (.int .i64 z3) (.int .i64 z4) (.int .i64 z5)) (fun r e => by cases e; exact ⟨Nat.le_refl _, hI.2.2.1⟩)
              replace hI := hI.put R0 z0 z1 z2 z3 z4 z5
              clear hJ3
              rcases cut_eight (i := 0) HZ.out (by decide) FB.out HN.out h2' HCUZ.out with rfl | rfl
              · obtain ⟨fn, tmps, assign, body, hy, hR⟩ := HY.out _ (zero6, 8) _ hJ4 (by rw [List.length_append, List.length_singleton]; omega)
                simp only [encs, mz.zval, zero6, List.getElem?_cons_zero, List.getElem?_cons_succ, Option.getD_some] at hy
                gi_wp2
                refine hR.mono ?_
                rintro e W5 (⟨rfl, hJ5, hk5⟩ | ⟨rfl, hJx5⟩)
                · gi_wp2
                  refine bodyPost_ret (results_none rfl _ _ _) rfl ?_
                  exact ⟨⟨_, rfl⟩, .inl ⟨_, by rw [List.append_assoc]; exact HC.out _ (.inr (.inr ⟨h1', h2', _, _, HCUT.out, .inr ⟨rfl, _, _, HCUZ.out, .inl ⟨by decide, rfl⟩⟩⟩)), hJ5⟩⟩
                · gi_wp2
                  refine bodyPost_ret (results_none rfl _ _ _) rfl ?_
                  exact ⟨⟨_, rfl⟩, .inr ⟨_, ⟨[], by rw [List.append_nil, List.append_assoc]; exact HC.out _ (.inr (.inr ⟨h1', h2', _, _, HCUT.out, .inr ⟨rfl, _, _, HCUZ.out, .inl ⟨by decide, rfl⟩⟩⟩))⟩, hJx5⟩⟩
              · have hzx := cut_zo TZ.out HZ.out.1.may (one_may FB.out) HCUZ.out
                have HZX := Lib.hid hzx
                clear hzx
                gi_wp2
                go_roundw
                case rel => exact ⟨1, pre ++ [([y0, y1, y2, y3, y4, y5], 0)], z0, z1, z2, z3, z4, z5, by omega, rfl, hJ4, by rw [List.length_append, List.length_singleton]; omega, HZX.out, fun t ht => by rw [List.append_assoc]; exact HC.out _ (.inr (.inr ⟨h1', h2', _, _, HCUT.out, .inr ⟨rfl, _, _, HCUZ.out, .inr ⟨rfl, t, ht, rfl⟩⟩⟩)), hI⟩
                case measure => simp [intOf]
            · gi_wp2
              refine bodyPost_ret (results_none rfl _ _ _) rfl ?_
              obtain ⟨t, ht⟩ := pcs_go (b := [b0, b1, b2, b3, b4, b5]) (a := [r0, r1, r2, r3, r4, r5]) (z := [y0, y1, y2, y3, y4, y5]) (k := 5) h1' h2' HCUT.out
              exact ⟨⟨_, rfl⟩, .inr ⟨_, ⟨t, by rw [List.append_assoc]; exact HC.out _ ht⟩, hJx3⟩⟩
    · -- place 1
      have fb : Fine b1 := MB.out 1 (by decide)
      have tbk : b1 ≤ 9223372036854775807 := fine_le fb
      obtain ⟨⟨c0, c1, c2, c3, c4, c5⟩, ⟨f0, f1, f2, f3, f4, f5⟩, xl⟩ := six_cells hI.1
      have hix : ∀ w : World, (Instr.index 27 (.agg #[.int .i64 b0, .int .i64 b1, .int .i64 b2, .int .i64 b3, .int .i64 b4, .int .i64 b5]) (.int .i64 1)).run Tryz.prog w = .ok (.int .i64 b1) w := fun w => by kernel_rfl
      have hbx : bits BinOp.xor IntKind.i64 1 1 = 0 := by decide
      by_cases h1 : r1 ≤ b1
      · clear fb tbk
        gi_wp2
        go_roundw
        case rel => exact ⟨2, pre, r0, r1, r2, r3, r4, r5, by omega, rfl, hj, by omega, HZ.out, fun t ht => HC.out t (.inl ⟨h1, ht⟩), hI⟩
        case measure => simp [intOf]
      · have h1' : b1 < r1 := by omega
        have hn : b1 ≠ 9223372036854775807 := by have := get_top TZ.out 1; have : r1 ≤ 9223372036854775807 := this; omega
        obtain ⟨en, fn, nn⟩ := not_is fb hn
        have EN := Lib.hid en
        have FN := Lib.hid fn
        have FB := Lib.hid fb
        have HN := Lib.hid hn
        have NN := Lib.hid nn
        clear en fn nn hn fb
        gi_wp2
        refine ⟨trivial, callsIn_wide.2 ((not_any b1 _ tbk).mono ?_)⟩
        rintro e w1 ⟨rfl, hB1⟩
        rw [EN.out]
        generalize valE b1 = ve
        replace hj := HJ.out _ _ _ none hj (grown_of hB1) (fun r e => by cases e)
        replace hI := hI.below hB1
        clear hB1 c0 c1 c2 c3 c4 c5 f0 f1 f2 f3 f4 f5 xl tbk
        obtain ⟨⟨c0, c1, c2, c3, c4, c5⟩, ⟨f0, f1, f2, f3, f4, f5⟩, xl⟩ := six_cells hI.1
        by_cases h2 : r0 ≤ 1 - b1
        · obtain ⟨fn, tmps, assign, body, hy, hR⟩ := HY.out pre ([r0, r1, r2, r3, r4, r5], 0) w1 hj (by omega)
          simp only [encs, mz.zval, List.getElem?_cons_zero, List.getElem?_cons_succ, Option.getD_some] at hy
          gi_wp2
          refine hR.mono ?_
          rintro e W3 (⟨rfl, hJ3, hk3⟩ | ⟨rfl, hJx3⟩)
          · gi_wp2
            refine bodyPost_ret (results_none rfl _ _ _) rfl ?_
            exact ⟨⟨_, rfl⟩, .inl ⟨_, HC.out _ (.inr (.inl ⟨h1', h2, rfl⟩)), hJ3⟩⟩
          · gi_wp2
            refine bodyPost_ret (results_none rfl _ _ _) rfl ?_
            exact ⟨⟨_, rfl⟩, .inr ⟨_, ⟨[], by rw [List.append_nil]; exact HC.out _ (.inr (.inl ⟨h1', h2, rfl⟩))⟩, hJx3⟩⟩
        · have h2' : 1 - b1 < r0 := by omega
          gi_wp2
          have htw : Tops [(1 - b1), r1, r2, r3, r4, r5] := tops_set (i := 0) (v := 1 - b1) TZ.out (fine_le FN.out)
          have hmw : MayD 3 (fullT [(1 - b1), r1, r2, r3, r4, r5]) := may_set (i := 0) (v := 1 - b1) HZ.out.1.may rfl FN.out
          refine ⟨trivial, callsIn_wide.2 ((with_0 r0 r1 r2 r3 r4 r5 (1 - b1) w1 hI.2.1 htw hmw).mono ?_)⟩
          rintro e w2 ⟨hB2, y0, y1, y2, y3, y4, y5, f, rfl, hO⟩
          replace hj := HJ.out _ _ _ none hj (grown_of hB2) (fun r e => by cases e)
          replace hI := hI.below hB2
          have HCUT := Lib.hid (with_cut (i := 0) (v := 1 - b1) HZ.out (by decide) FN.out (Int.le_of_lt h2') hO)
          clear hO htw hmw hB2 c0 c1 c2 c3 c4 c5 f0 f1 f2 f3 f4 f5 xl h2
          have hA := bound.up1 w2 (.cells #[.int .i64 y0, .int .i64 y1, .int .i64 y2, .int .i64 y3, .int .i64 y4, .int .i64 y5] 27)
          have hIA := hI.below hA
          have hjA := HJ.out _ _ _ none hj (grown_of hA) (fun r e => by cases e)
          clear hA hj
          have hge := hI.2.2.2.2.1
          rcases cut_eight (i := 0) HZ.out (by decide) FN.out NN.out (by show 1 - (1 - b1) < r1; omega) HCUT.out with rfl | rfl
          · obtain ⟨fn, tmps, assign, body, hy, hR⟩ := HY.out pre ([y0, y1, y2, y3, y4, y5], 8) _ hjA (by omega)
            simp only [encs, mz.zval, List.getElem?_cons_zero, List.getElem?_cons_succ, Option.getD_some] at hy
            gi_wp2
            refine hR.mono ?_
            rintro e W3 (⟨rfl, hJ3, hk3⟩ | ⟨rfl, hJx3⟩)
            · gi_wp2
              refine bodyPost_ret (results_none rfl _ _ _) rfl ?_
              exact ⟨⟨_, rfl⟩, .inl ⟨_, HC.out _ (.inr (.inr ⟨h1', h2', _, _, HCUT.out, .inl ⟨by decide, rfl⟩⟩)), hJ3⟩⟩
            · gi_wp2
              refine bodyPost_ret (results_none rfl _ _ _) rfl ?_
              exact ⟨⟨_, rfl⟩, .inr ⟨_, ⟨[], by rw [List.append_nil]; exact HC.out _ (.inr (.inr ⟨h1', h2', _, _, HCUT.out, .inl ⟨by decide, rfl⟩⟩))⟩, hJx3⟩⟩
          · obtain ⟨fn, tmps, assign, body, hy, hR⟩ := HY.out pre ([y0, y1, y2, y3, y4, y5], 0) _ hjA (by omega)
            simp only [encs, mz.zval, List.getElem?_cons_zero, List.getElem?_cons_succ, Option.getD_some] at hy
            gi_wp2
            refine hR.mono ?_
            rintro e W3 (⟨rfl, hJ3, hk3⟩ | ⟨rfl, hJx3⟩)
            · replace hI := hIA.round hk3
              clear hk3 hIA hjA hy hR hge
              have htw : Tops [r0, b1, r2, r3, r4, r5] := tops_set (i := 1) (v := b1) TZ.out (fine_le FB.out)
              have hmw : MayD 3 (fullT [r0, b1, r2, r3, r4, r5]) := may_set (i := 1) (v := b1) HZ.out.1.may rfl FB.out
              obtain ⟨⟨c0, c1, c2, c3, c4, c5⟩, ⟨f0, f1, f2, f3, f4, f5⟩, xl⟩ := six_cells hI.1
              have HT := Lib.hid htw
              have HM := Lib.hid hmw
              clear htw hmw
              gi_wp2
              refine ⟨trivial, callsIn_wide.2 ((with_1 r0 r1 r2 r3 r4 r5 b1 W3 hI.2.1 HT.out HM.out).mono ?_)⟩
              rintro e w4 ⟨hB4, z0, z1, z2, z3, z4, z5, g, rfl, hO⟩
              replace hJ3 := HJ.out _ _ _ none hJ3 (grown_of hB4) (fun r e => by cases e)
              replace hI := hI.below hB4
              have HCUZ := Lib.hid (with_cut (i := 1) (v := b1) HZ.out (by decide) FB.out (Int.le_of_lt h1') hO)
              clear hO hB4 HT HM c0 c1 c2 c3 c4 c5 f0 f1 f2 f3 f4 f5 xl
              obtain ⟨⟨c0, c1, c2, c3, c4, c5⟩, ⟨f0, f1, f2, f3, f4, f5⟩, xl⟩ := six_cells hI.1
              have hJ4 := HJ.out _ _ _ (some W.heap.size) hJ3 (grown_six w4 W.heap.size (.int .i64 z0) (.int .i64 z1) (.int .i64 z2) (.int .i64 z3) (.int .i64 z4) (.int .i64 z5)) (fun r e => by cases e; exact ⟨Nat.le_refl _, hI.2.2.1⟩)
              replace hI := hI.put R0 z0 z1 z2 z3 z4 z5
              clear hJ3
              rcases cut_eight (i := 1) HZ.out (by decide) FB.out HN.out h2' HCUZ.out with rfl | rfl
              · obtain ⟨fn, tmps, assign, body, hy, hR⟩ := HY.out _ (zero6, 8) _ hJ4 (by rw [List.length_append, List.length_singleton]; omega)
                simp only [encs, mz.zval, zero6, List.getElem?_cons_zero, List.getElem?_cons_succ, Option.getD_some] at hy
                gi_wp2
                refine hR.mono ?_
                rintro e W5 (⟨rfl, hJ5, hk5⟩ | ⟨rfl, hJx5⟩)
                · gi_wp2
                  refine bodyPost_ret (results_none rfl _ _ _) rfl ?_
                  exact ⟨⟨_, rfl⟩, .inl ⟨_, by rw [List.append_assoc]; exact HC.out _ (.inr (.inr ⟨h1', h2', _, _, HCUT.out, .inr ⟨rfl, _, _, HCUZ.out, .inl ⟨by decide, rfl⟩⟩⟩)), hJ5⟩⟩
                · gi_wp2
                  refine bodyPost_ret (results_none rfl _ _ _) rfl ?_
                  exact ⟨⟨_, rfl⟩, .inr ⟨_, ⟨[], by rw [List.append_nil, List.append_assoc]; exact HC.out _ (.inr (.inr ⟨h1', h2', _, _, HCUT.out, .inr ⟨rfl, _, _, HCUZ.out, .inl ⟨by decide, rfl⟩⟩⟩))⟩, hJx5⟩⟩
              · have hzx := cut_zo TZ.out HZ.out.1.may (one_may FB.out) HCUZ.out
                have HZX := Lib.hid hzx
                clear hzx
                gi_wp2
                go_roundw
                case rel => exact ⟨2, pre ++ [([y0, y1, y2, y3, y4, y5], 0)], z0, z1, z2, z3, z4, z5, by omega, rfl, hJ4, by rw [List.length_append, List.length_singleton]; omega, HZX.out, fun t ht => by rw [List.append_assoc]; exact HC.out _ (.inr (.inr ⟨h1', h2', _, _, HCUT.out, .inr ⟨rfl, _, _, HCUZ.out, .inr ⟨rfl, t, ht, rfl⟩⟩⟩)), hI⟩
                case measure => simp [intOf]
            · gi_wp2
              refine bodyPost_ret (results_none rfl _ _ _) rfl ?_
              obtain ⟨t, ht⟩ := pcs_go (b := [b0, b1, b2, b3, b4, b5]) (a := [r0, r1, r2, r3, r4, r5]) (z := [y0, y1, y2, y3, y4, y5]) (k := 4) h1' h2' HCUT.out
              exact ⟨⟨_, rfl⟩, .inr ⟨_, ⟨t, by rw [List.append_assoc]; exact HC.out _ ht⟩, hJx3⟩⟩
    · -- place 2
      have fb : Fine b2 := MB.out 2 (by decide)
      have tbk : b2 ≤ 9223372036854775807 := fine_le fb
      obtain ⟨⟨c0, c1, c2, c3, c4, c5⟩, ⟨f0, f1, f2, f3, f4, f5⟩, xl⟩ := six_cells hI.1
      have hix : ∀ w : World, (Instr.index 27 (.agg #[.int .i64 b0, .int .i64 b1, .int .i64 b2, .int .i64 b3, .int .i64 b4, .int .i64 b5]) (.int .i64 2)).run Tryz.prog w = .ok (.int .i64 b2) w := fun w => by kernel_rfl
      have hbx : bits BinOp.xor IntKind.i64 2 1 = 3 := by decide
      by_cases h1 : r2 ≤ b2
      · clear fb tbk
        gi_wp2
        go_roundw
        case rel => exact ⟨3, pre, r0, r1, r2, r3, r4, r5, by omega, rfl, hj, by omega, HZ.out, fun t ht => HC.out t (.inl ⟨h1, ht⟩), hI⟩
        case measure => simp [intOf]
      · have h1' : b2 < r2 := by omega
        have hn : b2 ≠ 9223372036854775807 := by have := get_top TZ.out 2; have : r2 ≤ 9223372036854775807 := this; omega
        obtain ⟨en, fn, nn⟩ := not_is fb hn
        have EN := Lib.hid en
        have FN := Lib.hid fn
        have FB := Lib.hid fb
        have HN := Lib.hid hn
        have NN := Lib.hid nn
        clear en fn nn hn fb
        gi_wp2
        refine ⟨trivial, callsIn_wide.2 ((not_any b2 _ tbk).mono ?_)⟩
        rintro e w1 ⟨rfl, hB1⟩
        rw [EN.out]
        generalize valE b2 = ve
        replace hj := HJ.out _ _ _ none hj (grown_of hB1) (fun r e => by cases e)
        replace hI := hI.below hB1
        clear hB1 c0 c1 c2 c3 c4 c5 f0 f1 f2 f3 f4 f5 xl tbk
        obtain ⟨⟨c0, c1, c2, c3, c4, c5⟩, ⟨f0, f1, f2, f3, f4, f5⟩, xl⟩ := six_cells hI.1
        by_cases h2 : r3 ≤ 1 - b2
        · obtain ⟨fn, tmps, assign, body, hy, hR⟩ := HY.out pre ([r0, r1, r2, r3, r4, r5], 0) w1 hj (by omega)
          simp only [encs, mz.zval, List.getElem?_cons_zero, List.getElem?_cons_succ, Option.getD_some] at hy
          gi_wp2
          refine hR.mono ?_
          rintro e W3 (⟨rfl, hJ3, hk3⟩ | ⟨rfl, hJx3⟩)
          · gi_wp2
            refine bodyPost_ret (results_none rfl _ _ _) rfl ?_
            exact ⟨⟨_, rfl⟩, .inl ⟨_, HC.out _ (.inr (.inl ⟨h1', h2, rfl⟩)), hJ3⟩⟩
          · gi_wp2
            refine bodyPost_ret (results_none rfl _ _ _) rfl ?_
            exact ⟨⟨_, rfl⟩, .inr ⟨_, ⟨[], by rw [List.append_nil]; exact HC.out _ (.inr (.inl ⟨h1', h2, rfl⟩))⟩, hJx3⟩⟩
        · have h2' : 1 - b2 < r3 := by omega
          gi_wp2
          have htw : Tops [r0, r1, r2, (1 - b2), r4, r5] := tops_set (i := 3) (v := 1 - b2) TZ.out (fine_le FN.out)
          have hmw : MayD 3 (fullT [r0, r1, r2, (1 - b2), r4, r5]) := may_set (i := 3) (v := 1 - b2) HZ.out.1.may rfl FN.out
          refine ⟨trivial, callsIn_wide.2 ((with_3 r0 r1 r2 r3 r4 r5 (1 - b2) w1 hI.2.1 htw hmw).mono ?_)⟩
          rintro e w2 ⟨hB2, y0, y1, y2, y3, y4, y5, f, rfl, hO⟩
          replace hj := HJ.out _ _ _ none hj (grown_of hB2) (fun r e => by cases e)
          replace hI := hI.below hB2
          have HCUT := Lib.hid (with_cut (i := 3) (v := 1 - b2) HZ.out (by decide) FN.out (Int.le_of_lt h2') hO)
          clear hO htw hmw hB2 c0 c1 c2 c3 c4 c5 f0 f1 f2 f3 f4 f5 xl h2
          have hA := bound.up1 w2 (.cells #[.int .i64 y0, .int .i64 y1, .int .i64 y2, .int .i64 y3, .int .i64 y4, .int .i64 y5] 27)
          have hIA := hI.below hA
          have hjA := HJ.out _ _ _ none hj (grown_of hA) (fun r e => by cases e)
          clear hA hj
          have hge := hI.2.2.2.2.1
          rcases cut_eight (i := 3) HZ.out (by decide) FN.out NN.out (by show 1 - (1 - b2) < r2; omega) HCUT.out with rfl | rfl
          · obtain ⟨fn, tmps, assign, body, hy, hR⟩ := HY.out pre ([y0, y1, y2, y3, y4, y5], 8) _ hjA (by omega)
            simp only [encs, mz.zval, List.getElem?_cons_zero, List.getElem?_cons_succ, Option.getD_some] at hy
            gi_wp2
            refine hR.mono ?_
            rintro e W3 (⟨rfl, hJ3, hk3⟩ | ⟨rfl, hJx3⟩)
            · gi_wp2
              refine bodyPost_ret (results_none rfl _ _ _) rfl ?_
              exact ⟨⟨_, rfl⟩, .inl ⟨_, HC.out _ (.inr (.inr ⟨h1', h2', _, _, HCUT.out, .inl ⟨by decide, rfl⟩⟩)), hJ3⟩⟩
            · gi_wp2
              refine bodyPost_ret (results_none rfl _ _ _) rfl ?_
              exact ⟨⟨_, rfl⟩, .inr ⟨_, ⟨[], by rw [List.append_nil]; exact HC.out _ (.inr (.inr ⟨h1', h2', _, _, HCUT.out, .inl ⟨by decide, rfl⟩⟩))⟩, hJx3⟩⟩
          · obtain ⟨fn, tmps, assign, body, hy, hR⟩ := HY.out pre ([y0, y1, y2, y3, y4, y5], 0) _ hjA (by omega)
            simp only [encs, mz.zval, List.getElem?_cons_zero, List.getElem?_cons_succ, Option.getD_some] at hy
            gi_wp2
            refine hR.mono ?_
            rintro e W3 (⟨rfl, hJ3, hk3⟩ | ⟨rfl, hJx3⟩)
            · replace hI := hIA.round hk3
              clear hk3 hIA hjA hy hR hge
              have htw : Tops [r0, r1, b2, r3, r4, r5] := tops_set (i := 2) (v := b2) TZ.out (fine_le FB.out)
              have hmw : MayD 3 (fullT [r0, r1, b2, r3, r4, r5]) := may_set (i := 2) (v := b2) HZ.out.1.may rfl FB.out
              obtain ⟨⟨c0, c1, c2, c3, c4, c5⟩, ⟨f0, f1, f2, f3, f4, f5⟩, xl⟩ := six_cells hI.1
              have HT := Lib.hid htw
              have HM := Lib.hid hmw
              clear htw hmw
              gi_wp2
              refine ⟨trivial, callsIn_wide.2 ((with_2 r0 r1 r2 r3 r4 r5 b2 W3 hI.2.1 HT.out HM.out).mono ?_)⟩
              rintro e w4 ⟨hB4, z0, z1, z2, z3, z4, z5, g, rfl, hO⟩
              replace hJ3 := HJ.out _ _ _ none hJ3 (grown_of hB4) (fun r e => by cases e)
              replace hI := hI.below hB4
              have HCUZ := Lib.hid (with_cut (i := 2) (v := b2) HZ.out (by decide) FB.out (Int.le_of_lt h1') hO)
              clear hO hB4 HT HM c0 c1 c2 c3 c4 c5 f0 f1 f2 f3 f4 f5 xl
              obtain ⟨⟨c0, c1, c2, c3, c4, c5⟩, ⟨f0, f1, f2, f3, f4, f5⟩, xl⟩ := six_cells hI.1
              have hJ4 := HJ.out _ _ _ (some W.heap.size) hJ3 (grown_six w4 W.heap.size (.int .i64 z0) (.int .i64 z1) (.int .i64 z2) (.int .i64 z3) (.int .i64 z4) (.int .i64 z5)) (fun r e => by cases e; exact ⟨Nat.le_refl _, hI.2.2.1⟩)
              replace hI := hI.put R0 z0 z1 z2 z3 z4 z5
              clear hJ3
              rcases cut_eight (i := 2) HZ.out (by decide) FB.out HN.out h2' HCUZ.out with rfl | rfl
              · obtain ⟨fn, tmps, assign, body, hy, hR⟩ := HY.out _ (zero6, 8) _ hJ4 (by rw [List.length_append, List.length_singleton]; omega)
                simp only [encs, mz.zval, zero6, List.getElem?_cons_zero, List.getElem?_cons_succ, Option.getD_some] at hy
                gi_wp2
                refine hR.mono ?_
                rintro e W5 (⟨rfl, hJ5, hk5⟩ | ⟨rfl, hJx5⟩)
                · gi_wp2
                  refine bodyPost_ret (results_none rfl _ _ _) rfl ?_
                  exact ⟨⟨_, rfl⟩, .inl ⟨_, by rw [List.append_assoc]; exact HC.out _ (.inr (.inr ⟨h1', h2', _, _, HCUT.out, .inr ⟨rfl, _, _, HCUZ.out, .inl ⟨by decide, rfl⟩⟩⟩)), hJ5⟩⟩
                · gi_wp2
                  refine bodyPost_ret (results_none rfl _ _ _) rfl ?_
                  exact ⟨⟨_, rfl⟩, .inr ⟨_, ⟨[], by rw [List.append_nil, List.append_assoc]; exact HC.out _ (.inr (.inr ⟨h1', h2', _, _, HCUT.out, .inr ⟨rfl, _, _, HCUZ.out, .inl ⟨by decide, rfl⟩⟩⟩))⟩, hJx5⟩⟩
              · have hzx := cut_zo TZ.out HZ.out.1.may (one_may FB.out) HCUZ.out
                have HZX := Lib.hid hzx
                clear hzx
                gi_wp2
                go_roundw
                case rel => exact ⟨3, pre ++ [([y0, y1, y2, y3, y4, y5], 0)], z0, z1, z2, z3, z4, z5, by omega, rfl, hJ4, by rw [List.length_append, List.length_singleton]; omega, HZX.out, fun t ht => by rw [List.append_assoc]; exact HC.out _ (.inr (.inr ⟨h1', h2', _, _, HCUT.out, .inr ⟨rfl, _, _, HCUZ.out, .inr ⟨rfl, t, ht, rfl⟩⟩⟩)), hI⟩
                case measure => simp [intOf]
            · gi_wp2
              refine bodyPost_ret (results_none rfl _ _ _) rfl ?_
              obtain ⟨t, ht⟩ := pcs_go (b := [b0, b1, b2, b3, b4, b5]) (a := [r0, r1, r2, r3, r4, r5]) (z := [y0, y1, y2, y3, y4, y5]) (k := 3) h1' h2' HCUT.out
              exact ⟨⟨_, rfl⟩, .inr ⟨_, ⟨t, by rw [List.append_assoc]; exact HC.out _ ht⟩, hJx3⟩⟩
    · -- place 3
      have fb : Fine b3 := MB.out 3 (by decide)
      have tbk : b3 ≤ 9223372036854775807 := fine_le fb
      obtain ⟨⟨c0, c1, c2, c3, c4, c5⟩, ⟨f0, f1, f2, f3, f4, f5⟩, xl⟩ := six_cells hI.1
      have hix : ∀ w : World, (Instr.index 27 (.agg #[.int .i64 b0, .int .i64 b1, .int .i64 b2, .int .i64 b3, .int .i64 b4, .int .i64 b5]) (.int .i64 3)).run Tryz.prog w = .ok (.int .i64 b3) w := fun w => by kernel_rfl
      have hbx : bits BinOp.xor IntKind.i64 3 1 = 2 := by decide
      by_cases h1 : r3 ≤ b3
      · clear fb tbk
        gi_wp2
        go_roundw
        case rel => exact ⟨4, pre, r0, r1, r2, r3, r4, r5, by omega, rfl, hj, by omega, HZ.out, fun t ht => HC.out t (.inl ⟨h1, ht⟩), hI⟩
        case measure => simp [intOf]
      · have h1' : b3 < r3 := by omega
        have hn : b3 ≠ 9223372036854775807 := by have := get_top TZ.out 3; have : r3 ≤ 9223372036854775807 := this; omega
        obtain ⟨en, fn, nn⟩ := not_is fb hn
        have EN := Lib.hid en
        have FN := Lib.hid fn
        have FB := Lib.hid fb
        have HN := Lib.hid hn
        have NN := Lib.hid nn
        clear en fn nn hn fb
        gi_wp2
        refine ⟨trivial, callsIn_wide.2 ((not_any b3 _ tbk).mono ?_)⟩
        rintro e w1 ⟨rfl, hB1⟩
        rw [EN.out]
        generalize valE b3 = ve
        replace hj := HJ.out _ _ _ none hj (grown_of hB1) (fun r e => by cases e)
        replace hI := hI.below hB1
        clear hB1 c0 c1 c2 c3 c4 c5 f0 f1 f2 f3 f4 f5 xl tbk
        obtain ⟨⟨c0, c1, c2, c3, c4, c5⟩, ⟨f0, f1, f2, f3, f4, f5⟩, xl⟩ := six_cells hI.1
        by_cases h2 : r2 ≤ 1 - b3
        · obtain ⟨fn, tmps, assign, body, hy, hR⟩ := HY.out pre ([r0, r1, r2, r3, r4, r5], 0) w1 hj (by omega)
          simp only [encs, mz.zval, List.getElem?_cons_zero, List.getElem?_cons_succ, Option.getD_some] at hy
          gi_wp2
          refine hR.mono ?_
          rintro e W3 (⟨rfl, hJ3, hk3⟩ | ⟨rfl, hJx3⟩)
          · gi_wp2
            refine bodyPost_ret (results_none rfl _ _ _) rfl ?_
            exact ⟨⟨_, rfl⟩, .inl ⟨_, HC.out _ (.inr (.inl ⟨h1', h2, rfl⟩)), hJ3⟩⟩
          · gi_wp2
            refine bodyPost_ret (results_none rfl _ _ _) rfl ?_
            exact ⟨⟨_, rfl⟩, .inr ⟨_, ⟨[], by rw [List.append_nil]; exact HC.out _ (.inr (.inl ⟨h1', h2, rfl⟩))⟩, hJx3⟩⟩
        · have h2' : 1 - b3 < r2 := by omega
          gi_wp2
          have htw : Tops [r0, r1, (1 - b3), r3, r4, r5] := tops_set (i := 2) (v := 1 - b3) TZ.out (fine_le FN.out)
          have hmw : MayD 3 (fullT [r0, r1, (1 - b3), r3, r4, r5]) := may_set (i := 2) (v := 1 - b3) HZ.out.1.may rfl FN.out
          refine ⟨trivial, callsIn_wide.2 ((with_2 r0 r1 r2 r3 r4 r5 (1 - b3) w1 hI.2.1 htw hmw).mono ?_)⟩
          rintro e w2 ⟨hB2, y0, y1, y2, y3, y4, y5, f, rfl, hO⟩
          replace hj := HJ.out _ _ _ none hj (grown_of hB2) (fun r e => by cases e)
          replace hI := hI.below hB2
          have HCUT := Lib.hid (with_cut (i := 2) (v := 1 - b3) HZ.out (by decide) FN.out (Int.le_of_lt h2') hO)
          clear hO htw hmw hB2 c0 c1 c2 c3 c4 c5 f0 f1 f2 f3 f4 f5 xl h2
          have hA := bound.up1 w2 (.cells #[.int .i64 y0, .int .i64 y1, .int .i64 y2, .int .i64 y3, .int .i64 y4, .int .i64 y5] 27)
          have hIA := hI.below hA
          have hjA := HJ.out _ _ _ none hj (grown_of hA) (fun r e => by cases e)
          clear hA hj
          have hge := hI.2.2.2.2.1
          rcases cut_eight (i := 2) HZ.out (by decide) FN.out NN.out (by show 1 - (1 - b3) < r3; omega) HCUT.out with rfl | rfl
          · obtain ⟨fn, tmps, assign, body, hy, hR⟩ := HY.out pre ([y0, y1, y2, y3, y4, y5], 8) _ hjA (by omega)
            simp only [encs, mz.zval, List.getElem?_cons_zero, List.getElem?_cons_succ, Option.getD_some] at hy
            gi_wp2
            refine hR.mono ?_
            rintro e W3 (⟨rfl, hJ3, hk3⟩ | ⟨rfl, hJx3⟩)
            · gi_wp2
              refine bodyPost_ret (results_none rfl _ _ _) rfl ?_
              exact ⟨⟨_, rfl⟩, .inl ⟨_, HC.out _ (.inr (.inr ⟨h1', h2', _, _, HCUT.out, .inl ⟨by decide, rfl⟩⟩)), hJ3⟩⟩
            · gi_wp2
              refine bodyPost_ret (results_none rfl _ _ _) rfl ?_
              exact ⟨⟨_, rfl⟩, .inr ⟨_, ⟨[], by rw [List.append_nil]; exact HC.out _ (.inr (.inr ⟨h1', h2', _, _, HCUT.out, .inl ⟨by decide, rfl⟩⟩))⟩, hJx3⟩⟩
          · obtain ⟨fn, tmps, assign, body, hy, hR⟩ := HY.out pre ([y0, y1, y2, y3, y4, y5], 0) _ hjA (by omega)
            simp only [encs, mz.zval, List.getElem?_cons_zero, List.getElem?_cons_succ, Option.getD_some] at hy
            gi_wp2
            refine hR.mono ?_
            rintro e W3 (⟨rfl, hJ3, hk3⟩ | ⟨rfl, hJx3⟩)
            · replace hI := hIA.round hk3
              clear hk3 hIA hjA hy hR hge
              have htw : Tops [r0, r1, r2, b3, r4, r5] := tops_set (i := 3) (v := b3) TZ.out (fine_le FB.out)
              have hmw : MayD 3 (fullT [r0, r1, r2, b3, r4, r5]) := may_set (i := 3) (v := b3) HZ.out.1.may rfl FB.out
              obtain ⟨⟨c0, c1, c2, c3, c4, c5⟩, ⟨f0, f1, f2, f3, f4, f5⟩, xl⟩ := six_cells hI.1
              have HT := Lib.hid htw
              have HM := Lib.hid hmw
              clear htw hmw
              gi_wp2
              refine ⟨trivial, callsIn_wide.2 ((with_3 r0 r1 r2 r3 r4 r5 b3 W3 hI.2.1 HT.out HM.out).mono ?_)⟩
              rintro e w4 ⟨hB4, z0, z1, z2, z3, z4, z5, g, rfl, hO⟩
              replace hJ3 := HJ.out _ _ _ none hJ3 (grown_of hB4) (fun r e => by cases e)
              replace hI := hI.below hB4
              have HCUZ := Lib.hid (with_cut (i := 3) (v := b3) HZ.out (by decide) FB.out (Int.le_of_lt h1') hO)
              clear hO hB4 HT HM c0 c1 c2 c3 c4 c5 f0 f1 f2 f3 f4 f5 xl
              obtain ⟨⟨c0, c1, c2, c3, c4, c5⟩, ⟨f0, f1, f2, f3, f4, f5⟩, xl⟩ := six_cells hI.1
              have hJ4 := HJ.out _ _ _ (some W.heap.size) hJ3 (grown_six w4 W.heap.size (.int .i64 z0) (.int .i64 z1) (.int .i64 z2) (.int .i64 z3) (.int .i64 z4) (.int .i64 z5)) (fun r e => by cases e; exact ⟨Nat.le_refl _, hI.2.2.1⟩)
              replace hI := hI.put R0 z0 z1 z2 z3 z4 z5
              clear hJ3
              rcases cut_eight (i := 3) HZ.out (by decide) FB.out HN.out h2' HCUZ.out with rfl | rfl
              · obtain ⟨fn, tmps, assign, body, hy, hR⟩ := HY.out _ (zero6, 8) _ hJ4 (by rw [List.length_append, List.length_singleton]; omega)
                simp only [encs, mz.zval, zero6, List.getElem?_cons_zero, List.getElem?_cons_succ, Option.getD_some] at hy
                gi_wp2
                refine hR.mono ?_
                rintro e W5 (⟨rfl, hJ5, hk5⟩ | ⟨rfl, hJx5⟩)
                · gi_wp2
                  refine bodyPost_ret (results_none rfl _ _ _) rfl ?_
                  exact ⟨⟨_, rfl⟩, .inl ⟨_, by rw [List.append_assoc]; exact HC.out _ (.inr (.inr ⟨h1', h2', _, _, HCUT.out, .inr ⟨rfl, _, _, HCUZ.out, .inl ⟨by decide, rfl⟩⟩⟩)), hJ5⟩⟩
                · gi_wp2
                  refine bodyPost_ret (results_none rfl _ _ _) rfl ?_
                  exact ⟨⟨_, rfl⟩, .inr ⟨_, ⟨[], by rw [List.append_nil, List.append_assoc]; exact HC.out _ (.inr (.inr ⟨h1', h2', _, _, HCUT.out, .inr ⟨rfl, _, _, HCUZ.out, .inl ⟨by decide, rfl⟩⟩⟩))⟩, hJx5⟩⟩
              · have hzx := cut_zo TZ.out HZ.out.1.may (one_may FB.out) HCUZ.out
                have HZX := Lib.hid hzx
                clear hzx
                gi_wp2
                go_roundw
                case rel => exact ⟨4, pre ++ [([y0, y1, y2, y3, y4, y5], 0)], z0, z1, z2, z3, z4, z5, by omega, rfl, hJ4, by rw [List.length_append, List.length_singleton]; omega, HZX.out, fun t ht => by rw [List.append_assoc]; exact HC.out _ (.inr (.inr ⟨h1', h2', _, _, HCUT.out, .inr ⟨rfl, _, _, HCUZ.out, .inr ⟨rfl, t, ht, rfl⟩⟩⟩)), hI⟩
                case measure => simp [intOf]
            · gi_wp2
              refine bodyPost_ret (results_none rfl _ _ _) rfl ?_
              obtain ⟨t, ht⟩ := pcs_go (b := [b0, b1, b2, b3, b4, b5]) (a := [r0, r1, r2, r3, r4, r5]) (z := [y0, y1, y2, y3, y4, y5]) (k := 2) h1' h2' HCUT.out
              exact ⟨⟨_, rfl⟩, .inr ⟨_, ⟨t, by rw [List.append_assoc]; exact HC.out _ ht⟩, hJx3⟩⟩
    · -- place 4
      have fb : Fine b4 := MB.out 4 (by decide)
      have tbk : b4 ≤ 9223372036854775807 := fine_le fb
      obtain ⟨⟨c0, c1, c2, c3, c4, c5⟩, ⟨f0, f1, f2, f3, f4, f5⟩, xl⟩ := six_cells hI.1
      have hix : ∀ w : World, (Instr.index 27 (.agg #[.int .i64 b0, .int .i64 b1, .int .i64 b2, .int .i64 b3, .int .i64 b4, .int .i64 b5]) (.int .i64 4)).run Tryz.prog w = .ok (.int .i64 b4) w := fun w => by kernel_rfl
      have hbx : bits BinOp.xor IntKind.i64 4 1 = 5 := by decide
      by_cases h1 : r4 ≤ b4
      · clear fb tbk
        gi_wp2
        go_roundw
        case rel => exact ⟨5, pre, r0, r1, r2, r3, r4, r5, by omega, rfl, hj, by omega, HZ.out, fun t ht => HC.out t (.inl ⟨h1, ht⟩), hI⟩
        case measure => simp [intOf]
      · have h1' : b4 < r4 := by omega
        have hn : b4 ≠ 9223372036854775807 := by have := get_top TZ.out 4; have : r4 ≤ 9223372036854775807 := this; omega
        obtain ⟨en, fn, nn⟩ := not_is fb hn
        have EN := Lib.hid en
        have FN := Lib.hid fn
        have FB := Lib.hid fb
        have HN := Lib.hid hn
        have NN := Lib.hid nn
        clear en fn nn hn fb
        gi_wp2
        refine ⟨trivial, callsIn_wide.2 ((not_any b4 _ tbk).mono ?_)⟩
        rintro e w1 ⟨rfl, hB1⟩
        rw [EN.out]
        generalize valE b4 = ve
        replace hj := HJ.out _ _ _ none hj (grown_of hB1) (fun r e => by cases e)
        replace hI := hI.below hB1
        clear hB1 c0 c1 c2 c3 c4 c5 f0 f1 f2 f3 f4 f5 xl tbk
        obtain ⟨⟨c0, c1, c2, c3, c4, c5⟩, ⟨f0, f1, f2, f3, f4, f5⟩, xl⟩ := six_cells hI.1
        by_cases h2 : r5 ≤ 1 - b4
        · obtain ⟨fn, tmps, assign, body, hy, hR⟩ := HY.out pre ([r0, r1, r2, r3, r4, r5], 0) w1 hj (by omega)
          simp only [encs, mz.zval, List.getElem?_cons_zero, List.getElem?_cons_succ, Option.getD_some] at hy
          gi_wp2
          refine hR.mono ?_
          rintro e W3 (⟨rfl, hJ3, hk3⟩ | ⟨rfl, hJx3⟩)
          · gi_wp2
            refine bodyPost_ret (results_none rfl _ _ _) rfl ?_
            exact ⟨⟨_, rfl⟩, .inl ⟨_, HC.out _ (.inr (.inl ⟨h1', h2, rfl⟩)), hJ3⟩⟩
          · gi_wp2
            refine bodyPost_ret (results_none rfl _ _ _) rfl ?_
            exact ⟨⟨_, rfl⟩, .inr ⟨_, ⟨[], by rw [List.append_nil]; exact HC.out _ (.inr (.inl ⟨h1', h2, rfl⟩))⟩, hJx3⟩⟩
        · have h2' : 1 - b4 < r5 := by omega
          gi_wp2
          have htw : Tops [r0, r1, r2, r3, r4, (1 - b4)] := tops_set (i := 5) (v := 1 - b4) TZ.out (fine_le FN.out)
          have hmw : MayD 3 (fullT [r0, r1, r2, r3, r4, (1 - b4)]) := may_set (i := 5) (v := 1 - b4) HZ.out.1.may rfl FN.out
          refine ⟨trivial, callsIn_wide.2 ((with_5 r0 r1 r2 r3 r4 r5 (1 - b4) w1 hI.2.1 htw hmw).mono ?_)⟩
          rintro e w2 ⟨hB2, y0, y1, y2, y3, y4, y5, f, rfl, hO⟩
          replace hj := HJ.out _ _ _ none hj (grown_of hB2) (fun r e => by cases e)
          replace hI := hI.below hB2
          have HCUT := Lib.hid (with_cut (i := 5) (v := 1 - b4) HZ.out (by decide) FN.out (Int.le_of_lt h2') hO)
          clear hO htw hmw hB2 c0 c1 c2 c3 c4 c5 f0 f1 f2 f3 f4 f5 xl h2
          have hA := bound.up1 w2 (.cells #[.int .i64 y0, .int .i64 y1, .int .i64 y2, .int .i64 y3, .int .i64 y4, .int .i64 y5] 27)
          have hIA := hI.below hA
          have hjA := HJ.out _ _ _ none hj (grown_of hA) (fun r e => by cases e)
          clear hA hj
          have hge := hI.2.2.2.2.1
          rcases cut_eight (i := 5) HZ.out (by decide) FN.out NN.out (by show 1 - (1 - b4) < r4; omega) HCUT.out with rfl | rfl
          · obtain ⟨fn, tmps, assign, body, hy, hR⟩ := HY.out pre ([y0, y1, y2, y3, y4, y5], 8) _ hjA (by omega)
            simp only [encs, mz.zval, List.getElem?_cons_zero, List.getElem?_cons_succ, Option.getD_some] at hy
            gi_wp2
            refine hR.mono ?_
            rintro e W3 (⟨rfl, hJ3, hk3⟩ | ⟨rfl, hJx3⟩)
            · gi_wp2
              refine bodyPost_ret (results_none rfl _ _ _) rfl ?_
              exact ⟨⟨_, rfl⟩, .inl ⟨_, HC.out _ (.inr (.inr ⟨h1', h2', _, _, HCUT.out, .inl ⟨by decide, rfl⟩⟩)), hJ3⟩⟩
            · gi_wp2
              refine bodyPost_ret (results_none rfl _ _ _) rfl ?_
              exact ⟨⟨_, rfl⟩, .inr ⟨_, ⟨[], by rw [List.append_nil]; exact HC.out _ (.inr (.inr ⟨h1', h2', _, _, HCUT.out, .inl ⟨by decide, rfl⟩⟩))⟩, hJx3⟩⟩
          · obtain ⟨fn, tmps, assign, body, hy, hR⟩ := HY.out pre ([y0, y1, y2, y3, y4, y5], 0) _ hjA (by omega)
            simp only [encs, mz.zval, List.getElem?_cons_zero, List.getElem?_cons_succ, Option.getD_some] at hy
            gi_wp2
            refine hR.mono ?_
            rintro e W3 (⟨rfl, hJ3, hk3⟩ | ⟨rfl, hJx3⟩)
            · replace hI := hIA.round hk3
              clear hk3 hIA hjA hy hR hge
              have htw : Tops [r0, r1, r2, r3, b4, r5] := tops_set (i := 4) (v := b4) TZ.out (fine_le FB.out)
              have hmw : MayD 3 (fullT [r0, r1, r2, r3, b4, r5]) := may_set (i := 4) (v := b4) HZ.out.1.may rfl FB.out
              obtain ⟨⟨c0, c1, c2, c3, c4, c5⟩, ⟨f0, f1, f2, f3, f4, f5⟩, xl⟩ := six_cells hI.1
              have HT := Lib.hid htw
              have HM := Lib.hid hmw
              clear htw hmw
              gi_wp2
              refine ⟨trivial, callsIn_wide.2 ((with_4 r0 r1 r2 r3 r4 r5 b4 W3 hI.2.1 HT.out HM.out).mono ?_)⟩
              rintro e w4 ⟨hB4, z0, z1, z2, z3, z4, z5, g, rfl, hO⟩
              replace hJ3 := HJ.out _ _ _ none hJ3 (grown_of hB4) (fun r e => by cases e)
              replace hI := hI.below hB4
              have HCUZ := Lib.hid (with_cut (i := 4) (v := b4) HZ.out (by decide) FB.out (Int.le_of_lt h1') hO)
              clear hO hB4 HT HM c0 c1 c2 c3 c4 c5 f0 f1 f2 f3 f4 f5 xl
              obtain ⟨⟨c0, c1, c2, c3, c4, c5⟩, ⟨f0, f1, f2, f3, f4, f5⟩, xl⟩ := six_cells hI.1
              have hJ4 := HJ.out _ _ _ (some W.heap.size) hJ3 (grown_six w4 W.heap.size (.int .i64 z0) (.int .i64 z1) (.int .i64 z2) (.int .i64 z3) (.int .i64 z4) (.int .i64 z5)) (fun r e => by cases e; exact ⟨Nat.le_refl _, hI.2.2.1⟩)
              replace hI := hI.put R0 z0 z1 z2 z3 z4 z5
              clear hJ3
              rcases cut_eight (i := 4) HZ.out (by decide) FB.out HN.out h2' HCUZ.out with rfl | rfl
              · obtain ⟨fn, tmps, assign, body, hy, hR⟩ := HY.out _ (zero6, 8) _ hJ4 (by rw [List.length_append, List.length_singleton]; omega)
                simp only [encs, mz.zval, zero6, List.getElem?_cons_zero, List.getElem?_cons_succ, Option.getD_some] at hy
                gi_wp2
                refine hR.mono ?_
                rintro e W5 (⟨rfl, hJ5, hk5⟩ | ⟨rfl, hJx5⟩)
                · gi_wp2
                  refine bodyPost_ret (results_none rfl _ _ _) rfl ?_
                  exact ⟨⟨_, rfl⟩, .inl ⟨_, by rw [List.append_assoc]; exact HC.out _ (.inr (.inr ⟨h1', h2', _, _, HCUT.out, .inr ⟨rfl, _, _, HCUZ.out, .inl ⟨by decide, rfl⟩⟩⟩)), hJ5⟩⟩
                · gi_wp2
                  refine bodyPost_ret (results_none rfl _ _ _) rfl ?_
                  exact ⟨⟨_, rfl⟩, .inr ⟨_, ⟨[], by rw [List.append_nil, List.append_assoc]; exact HC.out _ (.inr (.inr ⟨h1', h2', _, _, HCUT.out, .inr ⟨rfl, _, _, HCUZ.out, .inl ⟨by decide, rfl⟩⟩⟩))⟩, hJx5⟩⟩
              · have hzx := cut_zo TZ.out HZ.out.1.may (one_may FB.out) HCUZ.out
                have HZX := Lib.hid hzx
                clear hzx
                gi_wp2
                go_roundw
                case rel => exact ⟨5, pre ++ [([y0, y1, y2, y3, y4, y5], 0)], z0, z1, z2, z3, z4, z5, by omega, rfl, hJ4, by rw [List.length_append, List.length_singleton]; omega, HZX.out, fun t ht => by rw [List.append_assoc]; exact HC.out _ (.inr (.inr ⟨h1', h2', _, _, HCUT.out, .inr ⟨rfl, _, _, HCUZ.out, .inr ⟨rfl, t, ht, rfl⟩⟩⟩)), hI⟩
                case measure => simp [intOf]
            · gi_wp2
              refine bodyPost_ret (results_none rfl _ _ _) rfl ?_
              obtain ⟨t, ht⟩ := pcs_go (b := [b0, b1, b2, b3, b4, b5]) (a := [r0, r1, r2, r3, r4, r5]) (z := [y0, y1, y2, y3, y4, y5]) (k := 1) h1' h2' HCUT.out
              exact ⟨⟨_, rfl⟩, .inr ⟨_, ⟨t, by rw [List.append_assoc]; exact HC.out _ ht⟩, hJx3⟩⟩
    · -- place 5
      have fb : Fine b5 := MB.out 5 (by decide)
      have tbk : b5 ≤ 9223372036854775807 := fine_le fb
      obtain ⟨⟨c0, c1, c2, c3, c4, c5⟩, ⟨f0, f1, f2, f3, f4, f5⟩, xl⟩ := six_cells hI.1
      have hix : ∀ w : World, (Instr.index 27 (.agg #[.int .i64 b0, .int .i64 b1, .int .i64 b2, .int .i64 b3, .int .i64 b4, .int .i64 b5]) (.int .i64 5)).run Tryz.prog w = .ok (.int .i64 b5) w := fun w => by kernel_rfl
      have hbx : bits BinOp.xor IntKind.i64 5 1 = 4 := by decide
      by_cases h1 : r5 ≤ b5
      · clear fb tbk
        gi_wp2
        go_roundw
        case rel => exact ⟨6, pre, r0, r1, r2, r3, r4, r5, by omega, rfl, hj, by omega, HZ.out, fun t ht => HC.out t (.inl ⟨h1, ht⟩), hI⟩
        case measure => simp [intOf]
      · have h1' : b5 < r5 := by omega
        have hn : b5 ≠ 9223372036854775807 := by have := get_top TZ.out 5; have : r5 ≤ 9223372036854775807 := this; omega
        obtain ⟨en, fn, nn⟩ := not_is fb hn
        have EN := Lib.hid en
        have FN := Lib.hid fn
        have FB := Lib.hid fb
        have HN := Lib.hid hn
        have NN := Lib.hid nn
        clear en fn nn hn fb
        gi_wp2
        refine ⟨trivial, callsIn_wide.2 ((not_any b5 _ tbk).mono ?_)⟩
        rintro e w1 ⟨rfl, hB1⟩
        rw [EN.out]
        generalize valE b5 = ve
        replace hj := HJ.out _ _ _ none hj (grown_of hB1) (fun r e => by cases e)
        replace hI := hI.below hB1
        clear hB1 c0 c1 c2 c3 c4 c5 f0 f1 f2 f3 f4 f5 xl tbk
        obtain ⟨⟨c0, c1, c2, c3, c4, c5⟩, ⟨f0, f1, f2, f3, f4, f5⟩, xl⟩ := six_cells hI.1
        by_cases h2 : r4 ≤ 1 - b5
        · obtain ⟨fn, tmps, assign, body, hy, hR⟩ := HY.out pre ([r0, r1, r2, r3, r4, r5], 0) w1 hj (by omega)
          simp only [encs, mz.zval, List.getElem?_cons_zero, List.getElem?_cons_succ, Option.getD_some] at hy
          gi_wp2
          refine hR.mono ?_
          rintro e W3 (⟨rfl, hJ3, hk3⟩ | ⟨rfl, hJx3⟩)
          · gi_wp2
            refine bodyPost_ret (results_none rfl _ _ _) rfl ?_
            exact ⟨⟨_, rfl⟩, .inl ⟨_, HC.out _ (.inr (.inl ⟨h1', h2, rfl⟩)), hJ3⟩⟩
          · gi_wp2
            refine bodyPost_ret (results_none rfl _ _ _) rfl ?_
            exact ⟨⟨_, rfl⟩, .inr ⟨_, ⟨[], by rw [List.append_nil]; exact HC.out _ (.inr (.inl ⟨h1', h2, rfl⟩))⟩, hJx3⟩⟩
        · have h2' : 1 - b5 < r4 := by omega
          gi_wp2
          have htw : Tops [r0, r1, r2, r3, (1 - b5), r5] := tops_set (i := 4) (v := 1 - b5) TZ.out (fine_le FN.out)
          have hmw : MayD 3 (fullT [r0, r1, r2, r3, (1 - b5), r5]) := may_set (i := 4) (v := 1 - b5) HZ.out.1.may rfl FN.out
          refine ⟨trivial, callsIn_wide.2 ((with_4 r0 r1 r2 r3 r4 r5 (1 - b5) w1 hI.2.1 htw hmw).mono ?_)⟩
          rintro e w2 ⟨hB2, y0, y1, y2, y3, y4, y5, f, rfl, hO⟩
          replace hj := HJ.out _ _ _ none hj (grown_of hB2) (fun r e => by cases e)
          replace hI := hI.below hB2
          have HCUT := Lib.hid (with_cut (i := 4) (v := 1 - b5) HZ.out (by decide) FN.out (Int.le_of_lt h2') hO)
          clear hO htw hmw hB2 c0 c1 c2 c3 c4 c5 f0 f1 f2 f3 f4 f5 xl h2
          have hA := bound.up1 w2 (.cells #[.int .i64 y0, .int .i64 y1, .int .i64 y2, .int .i64 y3, .int .i64 y4, .int .i64 y5] 27)
          have hIA := hI.below hA
          have hjA := HJ.out _ _ _ none hj (grown_of hA) (fun r e => by cases e)
          clear hA hj
          have hge := hI.2.2.2.2.1
          rcases cut_eight (i := 4) HZ.out (by decide) FN.out NN.out (by show 1 - (1 - b5) < r5; omega) HCUT.out with rfl | rfl
          · obtain ⟨fn, tmps, assign, body, hy, hR⟩ := HY.out pre ([y0, y1, y2, y3, y4, y5], 8) _ hjA (by omega)
            simp only [encs, mz.zval, List.getElem?_cons_zero, List.getElem?_cons_succ, Option.getD_some] at hy
            gi_wp2
            refine hR.mono ?_
            rintro e W3 (⟨rfl, hJ3, hk3⟩ | ⟨rfl, hJx3⟩)
            · gi_wp2
              refine bodyPost_ret (results_none rfl _ _ _) rfl ?_
              exact ⟨⟨_, rfl⟩, .inl ⟨_, HC.out _ (.inr (.inr ⟨h1', h2', _, _, HCUT.out, .inl ⟨by decide, rfl⟩⟩)), hJ3⟩⟩
            · gi_wp2
              refine bodyPost_ret (results_none rfl _ _ _) rfl ?_
              exact ⟨⟨_, rfl⟩, .inr ⟨_, ⟨[], by rw [List.append_nil]; exact HC.out _ (.inr (.inr ⟨h1', h2', _, _, HCUT.out, .inl ⟨by decide, rfl⟩⟩))⟩, hJx3⟩⟩
          · obtain ⟨fn, tmps, assign, body, hy, hR⟩ := HY.out pre ([y0, y1, y2, y3, y4, y5], 0) _ hjA (by omega)
            simp only [encs, mz.zval, List.getElem?_cons_zero, List.getElem?_cons_succ, Option.getD_some] at hy
            gi_wp2
            refine hR.mono ?_
            rintro e W3 (⟨rfl, hJ3, hk3⟩ | ⟨rfl, hJx3⟩)
            · replace hI := hIA.round hk3
              clear hk3 hIA hjA hy hR hge
              have htw : Tops [r0, r1, r2, r3, r4, b5] := tops_set (i := 5) (v := b5) TZ.out (fine_le FB.out)
              have hmw : MayD 3 (fullT [r0, r1, r2, r3, r4, b5]) := may_set (i := 5) (v := b5) HZ.out.1.may rfl FB.out
              obtain ⟨⟨c0, c1, c2, c3, c4, c5⟩, ⟨f0, f1, f2, f3, f4, f5⟩, xl⟩ := six_cells hI.1
              have HT := Lib.hid htw
              have HM := Lib.hid hmw
              clear htw hmw
              gi_wp2
              refine ⟨trivial, callsIn_wide.2 ((with_5 r0 r1 r2 r3 r4 r5 b5 W3 hI.2.1 HT.out HM.out).mono ?_)⟩
              rintro e w4 ⟨hB4, z0, z1, z2, z3, z4, z5, g, rfl, hO⟩
              replace hJ3 := HJ.out _ _ _ none hJ3 (grown_of hB4) (fun r e => by cases e)
              replace hI := hI.below hB4
              have HCUZ := Lib.hid (with_cut (i := 5) (v := b5) HZ.out (by decide) FB.out (Int.le_of_lt h1') hO)
              clear hO hB4 HT HM c0 c1 c2 c3 c4 c5 f0 f1 f2 f3 f4 f5 xl
              obtain ⟨⟨c0, c1, c2, c3, c4, c5⟩, ⟨f0, f1, f2, f3, f4, f5⟩, xl⟩ := six_cells hI.1
              have hJ4 := HJ.out _ _ _ (some W.heap.size) hJ3 (grown_six w4 W.heap.size (.int .i64 z0) (.int .i64 z1) (.int .i64 z2) (.int .i64 z3) (.int .i64 z4) (.int .i64 z5)) (fun r e => by cases e; exact ⟨Nat.le_refl _, hI.2.2.1⟩)
              replace hI := hI.put R0 z0 z1 z2 z3 z4 z5
              clear hJ3
              rcases cut_eight (i := 5) HZ.out (by decide) FB.out HN.out h2' HCUZ.out with rfl | rfl
              · obtain ⟨fn, tmps, assign, body, hy, hR⟩ := HY.out _ (zero6, 8) _ hJ4 (by rw [List.length_append, List.length_singleton]; omega)
                simp only [encs, mz.zval, zero6, List.getElem?_cons_zero, List.getElem?_cons_succ, Option.getD_some] at hy
                gi_wp2
                refine hR.mono ?_
                rintro e W5 (⟨rfl, hJ5, hk5⟩ | ⟨rfl, hJx5⟩)
                · gi_wp2
                  refine bodyPost_ret (results_none rfl _ _ _) rfl ?_
                  exact ⟨⟨_, rfl⟩, .inl ⟨_, by rw [List.append_assoc]; exact HC.out _ (.inr (.inr ⟨h1', h2', _, _, HCUT.out, .inr ⟨rfl, _, _, HCUZ.out, .inl ⟨by decide, rfl⟩⟩⟩)), hJ5⟩⟩
                · gi_wp2
                  refine bodyPost_ret (results_none rfl _ _ _) rfl ?_
                  exact ⟨⟨_, rfl⟩, .inr ⟨_, ⟨[], by rw [List.append_nil, List.append_assoc]; exact HC.out _ (.inr (.inr ⟨h1', h2', _, _, HCUT.out, .inr ⟨rfl, _, _, HCUZ.out, .inl ⟨by decide, rfl⟩⟩⟩))⟩, hJx5⟩⟩
              · have hzx := cut_zo TZ.out HZ.out.1.may (one_may FB.out) HCUZ.out
                have HZX := Lib.hid hzx
                clear hzx
                gi_wp2
                go_roundw
                case rel => exact ⟨6, pre ++ [([y0, y1, y2, y3, y4, y5], 0)], z0, z1, z2, z3, z4, z5, by omega, rfl, hJ4, by rw [List.length_append, List.length_singleton]; omega, HZX.out, fun t ht => by rw [List.append_assoc]; exact HC.out _ (.inr (.inr ⟨h1', h2', _, _, HCUT.out, .inr ⟨rfl, _, _, HCUZ.out, .inr ⟨rfl, t, ht, rfl⟩⟩⟩)), hI⟩
                case measure => simp [intOf]
            · gi_wp2
              refine bodyPost_ret (results_none rfl _ _ _) rfl ?_
              obtain ⟨t, ht⟩ := pcs_go (b := [b0, b1, b2, b3, b4, b5]) (a := [r0, r1, r2, r3, r4, r5]) (z := [y0, y1, y2, y3, y4, y5]) (k := 0) h1' h2' HCUT.out
              exact ⟨⟨_, rfl⟩, .inr ⟨_, ⟨t, by rw [List.append_assoc]; exact HC.out _ ht⟩, hJx3⟩⟩
    · -- no more
      gi_wp2
      go_end0
      exact ⟨⟨_, rfl⟩, .inl ⟨pre, by have := HC.out [] rfl; rwa [List.append_nil] at this, hj⟩⟩
theorem pieces_gives (n Bl A B:Nat) (hn:1≤n) (a0 a1 a2 a3 a4 a5 b0 b1 b2 b3 b4 b5:Int) (w:World) (hP:Pl w) (hA:lies.Lies w A 27 #[.int .i64 a0,.int .i64 a1,.int .i64 a2,.int .i64 a3,.int .i64 a4,.int .i64 a5]) (hB:lies.Lies w B 27 #[.int .i64 b0,.int .i64 b1,.int .i64 b2,.int .i64 b3,.int .i64 b4,.int .i64 b5]) (za:Zo [a0,a1,a2,a3,a4,a5]) (zb:Zo [b0,b1,b2,b3,b4,b5]) (hBl:Bl<w.heap.size) (hrow:∀ q,rowAt Bl w q→q<w.heap.size):
  mine.Gives Fence.wide n Tryz.prog 210 #[.pointer (some ⟨A,0,none⟩),.pointer (some ⟨B,0,none⟩)] encs (rowAt Bl) (Kp Bl) (PcsR [b0,b1,b2,b3,b4,b5] 6 [a0,a1,a2,a3,a4,a5]) (fun pre=>∃ t,PcsR [b0,b1,b2,b3,b4,b5] 6 [a0,a1,a2,a3,a4,a5] (pre++t)) 7 w:=fun l J Jx W hW hJ hJx hY h0=>
 pieces1_in n l Bl A B hn a0 a1 a2 a3 a4 a5 b0 b1 b2 b3 b4 b5 J Jx W (hP.on hW) (lies.on_call hA hW) (lies.on_call hB hW) za zb (Nat.lt_of_lt_of_le hBl hW.size) (fun q hq=>Nat.lt_of_lt_of_le (hrow q ((row_far (hW.block Bl hBl) q).1 hq)) hW.size) hJ hY h0
end Go.Proofs.YthmljpccbjolgaaGreatDoor.minus
