
/-
  What the calls of cover answer: In and Witness; each theorem names its conditions.
-/
import Derived.Test.YthljhijcmdnonaaGreatDoorCoverM
namespace Go.Proofs.YthljhijcmdnonaaGreatDoor.cover
open Go.Joins Go.ChangeShapes Go.WideShapes Go.ChangeAt Go.RowKit num rat dbm Go.Proofs.YthljhijcmdnonaaGreatDoor.tight Go.Proofs.YthljhijcmdnonaaGreatDoor.incl Go.Proofs.YthljhijcmdnonaaGreatDoor.plaw Go.Proofs.YthljhijcmdnonaaGreatDoor.zopen Go.Proofs.YthljhijcmdnonaaGreatDoor.zone Go.Proofs.YthljhijcmdnonaaGreatDoor.win Go.Proofs.YthljhijcmdnonaaGreatDoor.minus Go.Proofs.YthljhijcmdnonaaGreatDoor.mz Go.Proofs.YthljhijcmdnonaaGreatDoor.mlaw
open bound hiding up
set_option linter.unusedVariables false
set_option linter.unusedSimpArgs false
set_option linter.unusedSectionVars false

theorem chk_turn {a b : List (List Int)} {f : Int} (h : ChkR a b f) : ChkR b a f := by
  rcases h with ⟨h | h, k⟩ | ⟨h1, h2, h3, h4⟩ | ⟨h1, h2, h3, h4, h5⟩
  · exact .inl ⟨.inr h, k⟩
  · exact .inl ⟨.inl h, k⟩
  · exact .inr (.inl ⟨h2, h1, fun q => h3 ⟨q.2, q.1⟩, h4⟩)
  · exact .inr (.inr ⟨h2, h1, h4, h3, h5⟩)
theorem chk_fine {a b : List (List Int)} (h : ChkR a b 0) : a.length ≤ 4096 ∧ b.length ≤ 4096 ∧ (∀ x, x ∈ a → MayZ x) ∧ ∀ x, x ∈ b → MayZ x := by
  rcases h with ⟨_, k⟩ | ⟨_, _, _, k⟩ | ⟨h1, h2, h3, h4, _⟩
  · cases k
  · cases k
  · exact ⟨h1, h2, h3, h4⟩
theorem chk_long {a b : List (List Int)} {f : Int} (h : ChkR a b f) (k : 4096 < a.length ∨ 4096 < b.length) : f = 4 := by
  rcases h with ⟨_, e⟩ | ⟨h1, h2, _⟩ | ⟨h1, h2, _⟩ <;> omega
theorem six_self {z : List Int} (hz : z.length = 6) (tz : Tops z) : Six [z] := six_one hz tz
/-- what is asked of a zone and of a list that isn't too long. -/
def May1 (w : World) (z : List Int) (v : Value) (l : List (List Int)) : Prop := Pl w ∧ Tops z ∧ Zs w.heap.size w v l ∧ Six l
set_option maxRecDepth 100000 in
set_option maxHeartbeats 8000000 in
theorem in_gen (z0 z1 z2 z3 z4 z5 : Int) (ao : Option Addr) (len cap : Nat) (l : List (List Int)) (w : World) (hZ : len ≤ 4096 → May1 w [z0, z1, z2, z3, z4, z5] (.slice ao len cap) l) (hl : l.length = len) :
    Calls Tryz.prog 12 #[.agg #[.int .i64 z0, .int .i64 z1, .int .i64 z2, .int .i64 z3, .int .i64 z4, .int .i64 z5], .slice ao len cap] w fun e w' => Below w.heap.size w w' ∧ ∃ (is : Bool) (f : Int), e = .returned (.tuple #[.bool is, .int .i64 f]) ∧ InX RestP [z0, z1, z2, z3, z4, z5] l is f := by
  obtain ⟨w0, hX⟩ : ∃ w0, w0 = ((w.alloc (.cells #[.int .i64 z0, .int .i64 z1, .int .i64 z2, .int .i64 z3, .int .i64 z4, .int .i64 z5] 24)).alloc (.cells #[.int .i64 z0, .int .i64 z1, .int .i64 z2, .int .i64 z3, .int .i64 z4, .int .i64 z5] 24)).alloc (.cells #[.slice (some ⟨w.heap.size + 1, 0, none⟩) 1 1, .slice ao len cap] 26) := ⟨_, rfl⟩
  have DB : Below w.heap.size w w0 := by rw [hX]; exact bound.up3 _ _ _ _
  have D0 : lies.Lies w0 w.heap.size 24 #[.int .i64 z0, .int .i64 z1, .int .i64 z2, .int .i64 z3, .int .i64 z4, .int .i64 z5] := by rw [hX]; exact lies.on_alloc (lies.on_alloc (lies.made _ _ _) _) _
  have D1 : lies.Lies w0 (w.heap.size + 1) 24 #[.int .i64 z0, .int .i64 z1, .int .i64 z2, .int .i64 z3, .int .i64 z4, .int .i64 z5] := by rw [hX]; exact lies.on_alloc (lies.made_at _ _ _ _ (by simp)) _
  have D2 : lies.Lies w0 (w.heap.size + 1 + 1) 26 #[.slice (some ⟨w.heap.size + 1, 0, none⟩) 1 1, .slice ao len cap] := by rw [hX]; exact lies.made_at _ _ _ _ (by simp)
  have HZ := Lib.hid hZ
  have HL := Lib.hid hl
  clear hZ hl
  go_enter Tryz.func12, Tryz.ntmps12
  go_wp2_with fail
  rw [← hX]
  clear hX
  refine (check_two _ (some ⟨w.heap.size + 1, 0, none⟩) 1 1 ao len cap [[z0, z1, z2, z3, z4, z5]] l w0 D2 (fun _ h => ⟨(HZ.out h).1.on DB, ⟨zs_box D1, six_self rfl (HZ.out h).2.1⟩, ((HZ.out h).2.2.1.below DB).mono DB.size, (HZ.out h).2.2.2⟩) rfl HL.out).mono ?_
  rintro e w1 ⟨hB, f, rfl, hR⟩
  replace D0 := lies.on_call D0 hB
  replace DB := later DB hB
  clear hB D1 D2
  by_cases h0 : f = 0
  · subst h0
    obtain ⟨h1, h2, h3, h4⟩ := chk_fine hR
    have HR := Lib.hid (chk_turn hR)
    have HM1 := Lib.hid (h3 _ List.mem_cons_self)
    have HM2 := Lib.hid h4
    have h2 : len ≤ 4096 := by rw [← HL.out]; exact h2
    obtain ⟨P0, ta, hI, h6⟩ := HZ.out h2
    replace P0 := P0.on DB
    have HTA := Lib.hid ta
    have HI := Lib.hid hI
    have H6 := Lib.hid h6
    clear ta hI h6 HZ hR h1 h3 h4
    obtain ⟨⟨x0, x1, x2, x3, x4, x5⟩, -, xl⟩ := six_cells D0
    go_wp2_with fail
    clear x0 x1 x2 x3 x4 x5 xl D0
    refine (covered_any z0 z1 z2 z3 z4 z5 ao len cap l w1 P0 HTA.out ((HI.out.below DB).mono DB.size) H6.out HL.out (by omega) HM1.out HM2.out).mono ?_
    rintro e w2 ⟨hB, is, f, rfl, hC⟩
    have HC := Lib.hid hC
    replace DB := later DB hB
    clear hC hB
    go_wp2_with fail
    exact bodyPost_ret (v := .tuple #[.bool is, .int .i64 f]) (by simp [results, Tryz.results12, go_sem]) rfl ⟨DB, is, f, rfl, 0, HR.out, .inr ⟨rfl, HC.out⟩⟩
  · have HR := Lib.hid (chk_turn hR)
    clear hR D0
    go_wp2_with fail
    exact bodyPost_ret (v := .tuple #[.bool false, .int .i64 f]) (by simp [results, Tryz.results12, go_sem]) rfl ⟨DB, false, f, rfl, f, HR.out, .inl ⟨h0, rfl, rfl⟩⟩
theorem in_any (z0 z1 z2 z3 z4 z5 : Int) (ao : Option Addr) (len cap : Nat) (l : List (List Int)) (w : World) (hP : Pl w) (ta : Tops [z0, z1, z2, z3, z4, z5]) (hI : Zs w.heap.size w (.slice ao len cap) l) (h6 : Six l) (hl : l.length = len) (hm : len ≤ 1000000) : Calls Tryz.prog 12 #[.agg #[.int .i64 z0, .int .i64 z1, .int .i64 z2, .int .i64 z3, .int .i64 z4, .int .i64 z5], .slice ao len cap] w fun e w' => Below w.heap.size w w' ∧ ∃ (is : Bool) (f : Int), e = .returned (.tuple #[.bool is, .int .i64 f]) ∧ InX RestP [z0, z1, z2, z3, z4, z5] l is f :=
  in_gen z0 z1 z2 z3 z4 z5 ao len cap l w (fun _ => ⟨hP, ta, hI, h6⟩) hl
theorem in_long (z0 z1 z2 z3 z4 z5 : Int) (ao : Option Addr) (len cap : Nat) (w : World) (h : 4096 < len) : Calls Tryz.prog 12 #[.agg #[.int .i64 z0, .int .i64 z1, .int .i64 z2, .int .i64 z3, .int .i64 z4, .int .i64 z5], .slice ao len cap] w fun e w' => Below w.heap.size w w' ∧ e = .returned (.tuple #[.bool false, .int .i64 4]) := by
  refine (in_gen z0 z1 z2 z3 z4 z5 ao len cap (List.replicate len []) w (fun k => absurd k (by omega)) List.length_replicate).mono ?_
  rintro e w' ⟨hB, is, f, rfl, c, hc, q⟩
  obtain rfl := chk_long hc (.inl (by rw [List.length_replicate]; exact h))
  rcases q with ⟨_, rfl, rfl⟩ | ⟨q, _⟩
  · exact ⟨hB, rfl⟩
  · cases q

set_option maxRecDepth 100000 in
set_option maxHeartbeats 8000000 in
theorem witness_gen (z0 z1 z2 z3 z4 z5 : Int) (ao : Option Addr) (len cap : Nat) (l : List (List Int)) (w : World) (hZ : len ≤ 4096 → May1 w [z0, z1, z2, z3, z4, z5] (.slice ao len cap) l) (hl : l.length = len) :
    Calls Tryz.prog 9 #[.agg #[.int .i64 z0, .int .i64 z1, .int .i64 z2, .int .i64 z3, .int .i64 z4, .int .i64 z5], .slice ao len cap] w fun e w' => Below w.heap.size w w' ∧ ∃ (a b c d f : Int), e = .returned (.tuple #[.agg #[.int .i64 a, .int .i64 b, .int .i64 c, .int .i64 d], .int .i64 f]) ∧ WitX RestP [z0, z1, z2, z3, z4, z5] l (a, b, c, d) f := by
  obtain ⟨w0, hX⟩ : ∃ w0, w0 = (((w.alloc (.cells #[.int .i64 z0, .int .i64 z1, .int .i64 z2, .int .i64 z3, .int .i64 z4, .int .i64 z5] 24)).alloc (.cells #[.int .i64 0, .int .i64 0, .int .i64 0, .int .i64 0] 33)).alloc (.cells #[.int .i64 z0, .int .i64 z1, .int .i64 z2, .int .i64 z3, .int .i64 z4, .int .i64 z5] 24)).alloc (.cells #[.slice (some ⟨w.heap.size + 1 + 1, 0, none⟩) 1 1, .slice ao len cap] 26) := ⟨_, rfl⟩
  have DB : Below w.heap.size w w0 := by rw [hX]; exact lies.frame_up (bound.up3 _ _ _ _) _
  have D0 : lies.Lies w0 w.heap.size 24 #[.int .i64 z0, .int .i64 z1, .int .i64 z2, .int .i64 z3, .int .i64 z4, .int .i64 z5] := by rw [hX]; exact lies.on_alloc (lies.on_alloc (lies.on_alloc (lies.made _ _ _) _) _) _
  have DP : lies.Lies w0 (w.heap.size + 1) 33 #[.int .i64 0, .int .i64 0, .int .i64 0, .int .i64 0] := by rw [hX]; exact lies.on_alloc (lies.on_alloc (lies.made_at _ _ _ _ (by simp)) _) _
  have D1 : lies.Lies w0 (w.heap.size + 1 + 1) 24 #[.int .i64 z0, .int .i64 z1, .int .i64 z2, .int .i64 z3, .int .i64 z4, .int .i64 z5] := by rw [hX]; exact lies.on_alloc (lies.made_at _ _ _ _ (by simp)) _
  have D2 : lies.Lies w0 (w.heap.size + 1 + 1 + 1) 26 #[.slice (some ⟨w.heap.size + 1 + 1, 0, none⟩) 1 1, .slice ao len cap] := by rw [hX]; exact lies.made_at _ _ _ _ (by simp)
  have HZ := Lib.hid hZ
  have HL := Lib.hid hl
  clear hZ hl
  go_enter Tryz.func9, Tryz.ntmps9
  go_wp2_with fail
  rw [← hX]
  clear hX
  refine (check_two _ (some ⟨w.heap.size + 1 + 1, 0, none⟩) 1 1 ao len cap [[z0, z1, z2, z3, z4, z5]] l w0 D2 (fun _ h => ⟨(HZ.out h).1.on DB, ⟨zs_box D1, six_self rfl (HZ.out h).2.1⟩, ((HZ.out h).2.2.1.below DB).mono DB.size, (HZ.out h).2.2.2⟩) rfl HL.out).mono ?_
  rintro e w1 ⟨hB, f, rfl, hR⟩
  replace D0 := lies.on_call D0 hB
  replace DP := lies.on_call DP hB
  replace DB := later DB hB
  clear hB D1 D2
  by_cases h0 : f = 0
  · subst h0
    obtain ⟨h1, h2, h3, h4⟩ := chk_fine hR
    have HR := Lib.hid (chk_turn hR)
    have HM1 := Lib.hid (h3 _ List.mem_cons_self)
    have HM2 := Lib.hid h4
    have h2 : len ≤ 4096 := by rw [← HL.out]; exact h2
    obtain ⟨P0, ta, hI, h6⟩ := HZ.out h2
    replace P0 := P0.on DB
    have HTA := Lib.hid ta
    have HI := Lib.hid hI
    have H6 := Lib.hid h6
    clear ta hI h6 HZ hR h1 h3 h4
    obtain ⟨⟨x0, x1, x2, x3, x4, x5⟩, -, xl⟩ := six_cells D0
    go_wp2_with fail
    clear x0 x1 x2 x3 x4 x5 xl D0
    refine (left_any z0 z1 z2 z3 z4 z5 ao len cap l w1 P0 HTA.out ((HI.out.below DB).mono DB.size) H6.out HL.out (by omega)).mono ?_
    rintro e w2 ⟨hB, v, r, g, rfl, hC, hO⟩
    replace DP := lies.on_call DP hB
    replace P0 := P0.on hB
    replace DB := later DB hB
    clear hB
    obtain ⟨av, cv, rfl⟩ := zs_len (zs_own hO)
    have hr : RestP l [[z0, z1, z2, z3, z4, z5]] r g := by
      rcases hC with ⟨k, _⟩ | ⟨_, _, k⟩
      · exact (k ⟨HM1.out, HM2.out⟩).elim
      · exact k
    have HC := Lib.hid hr
    clear hr hC
    by_cases hg : g = 0
    · subst hg
      have hzo := rest_zo l (H6.out.zo HM2.out) (fun z hz => by rw [List.mem_singleton.1 hz]; exact ⟨HM1.out, HTA.out, rfl⟩) (restP_ok l (H6.out.zo HM2.out) (fun z hz => by rw [List.mem_singleton.1 hz]; exact ⟨HM1.out, HTA.out, rfl⟩) HC.out)
      have hzs := zs_own hO
      generalize hmm : r.length = m at hzs ⊢
      have HMM := Lib.hid hmm
      clear hO hmm
      by_cases hm0 : m = 0
      · subst hm0
        clear hzs hzo P0
        obtain ⟨⟨x0, x1, x2, x3⟩, ⟨y0, y1, y2, y3⟩, xl⟩ := four_cells DP
        go_wp2_with fail
        exact bodyPost_ret (v := .tuple #[.agg #[.int .i64 0, .int .i64 0, .int .i64 0, .int .i64 0], .int .i64 6]) (by simp [results, Tryz.results9, go_sem, x0, x1, x2, x3, xl]) rfl ⟨put_four DB (Nat.le_succ _) _ _ _ _, 0, 0, 0, 0, 6, rfl, 0, HR.out, .inr ⟨rfl, r, 0, HC.out, .inr (.inl ⟨rfl, List.length_eq_zero_iff.1 HMM.out, rfl, rfl⟩)⟩⟩
      · have hm1 : ¬ (m : Int) = 0 := by omega
        have hm2 : (0 : Int) < m := by omega
        have h0r : 0 < r.length := by rw [HMM.out]; omega
        obtain ⟨bq, off, rfl, -, hb, c0, c1, c2, c3, c4, c5⟩ := zs_at hzs h0r
        have hz := hzo _ (zat_mem h0r)
        have HZZ := Lib.hid (show ∀ z, zat r 0 = z → pks 3 (fullT z) = pks 3 (fullT (zat r 0)) from fun z e => by rw [e])
        generalize hz0 : zat r 0 = zk at c0 c1 c2 c3 c4 c5 hz
        have HZ0 := Lib.hid (HZZ.out _ hz0)
        clear hz0 HZZ hzo hzs h0r
        obtain ⟨t0, t1, t2, t3, t4, t5, rfl⟩ := six hz.2.2
        rw [Nat.zero_mul, Nat.add_zero] at c0 c1 c2 c3 c4 c5
        have c0 : w2.cell? ⟨bq, off, none⟩ = some (.int .i64 t0) := c0
        have c1 : w2.cell? ⟨bq, off + 1, none⟩ = some (.int .i64 t1) := c1
        have c2 : w2.cell? ⟨bq, off + 2, none⟩ = some (.int .i64 t2) := c2
        have c3 : w2.cell? ⟨bq, off + 3, none⟩ = some (.int .i64 t3) := c3
        have c4 : w2.cell? ⟨bq, off + 4, none⟩ = some (.int .i64 t4) := c4
        have c5 : w2.cell? ⟨bq, off + 5, none⟩ = some (.int .i64 t5) := c5
        have HZO := Lib.hid hz
        clear hz
        go_wp2_with fail
        clear c0 c1 c2 c3 c4 c5
        refine (zpick_any t0 t1 t2 t3 t4 t5 w2 P0 HZO.out.2.1).mono ?_
        rintro e w3 ⟨hB, a, b, c, d, f, rfl, hK⟩
        replace DP := lies.on_call DP hB
        replace DB := later DB hB
        clear hB P0
        have hpk : pks 3 (fullT [t0, t1, t2, t3, t4, t5]) = [(a, b), (c, d)] ∧ f = 0 := by
          rcases hK with ⟨k, _⟩ | ⟨_, k⟩
          · exact (k HZO.out.1).elim
          · exact k
        obtain ⟨hpk, rfl⟩ := hpk
        have HPK := Lib.hid hpk
        clear hpk hK
        obtain ⟨⟨x0, x1, x2, x3⟩, ⟨y0, y1, y2, y3⟩, xl⟩ := four_cells DP
        go_wp2_with fail
        exact bodyPost_ret (v := .tuple #[.agg #[.int .i64 a, .int .i64 b, .int .i64 c, .int .i64 d], .int .i64 0]) (by simp [results, Tryz.results9, go_sem, x0, x1, x2, x3, xl]) rfl ⟨put_four DB (Nat.le_succ _) _ _ _ _, a, b, c, d, 0, rfl, 0, HR.out, .inr ⟨rfl, r, 0, HC.out, .inr (.inr ⟨rfl, fun e => hm0 (by rw [← HMM.out, e]; rfl), by rw [← HZ0.out]; exact HPK.out, rfl⟩)⟩⟩
    · clear hO P0
      obtain ⟨⟨x0, x1, x2, x3⟩, ⟨y0, y1, y2, y3⟩, xl⟩ := four_cells DP
      go_wp2_with fail
      exact bodyPost_ret (v := .tuple #[.agg #[.int .i64 0, .int .i64 0, .int .i64 0, .int .i64 0], .int .i64 g]) (by simp [results, Tryz.results9, go_sem, x0, x1, x2, x3, xl]) rfl ⟨put_four DB (Nat.le_succ _) _ _ _ _, 0, 0, 0, 0, g, rfl, 0, HR.out, .inr ⟨rfl, r, g, HC.out, .inl ⟨hg, rfl, rfl⟩⟩⟩
  · have HR := Lib.hid (chk_turn hR)
    clear hR D0
    obtain ⟨⟨x0, x1, x2, x3⟩, ⟨y0, y1, y2, y3⟩, xl⟩ := four_cells DP
    go_wp2_with fail
    exact bodyPost_ret (v := .tuple #[.agg #[.int .i64 0, .int .i64 0, .int .i64 0, .int .i64 0], .int .i64 f]) (by simp [results, Tryz.results9, go_sem, x0, x1, x2, x3, xl]) rfl ⟨put_four DB (Nat.le_succ _) _ _ _ _, 0, 0, 0, 0, f, rfl, f, HR.out, .inl ⟨h0, rfl, rfl⟩⟩
theorem witness_any (z0 z1 z2 z3 z4 z5 : Int) (ao : Option Addr) (len cap : Nat) (l : List (List Int)) (w : World) (hP : Pl w) (ta : Tops [z0, z1, z2, z3, z4, z5]) (hI : Zs w.heap.size w (.slice ao len cap) l) (h6 : Six l) (hl : l.length = len) (hm : len ≤ 1000000) : Calls Tryz.prog 9 #[.agg #[.int .i64 z0, .int .i64 z1, .int .i64 z2, .int .i64 z3, .int .i64 z4, .int .i64 z5], .slice ao len cap] w fun e w' => Below w.heap.size w w' ∧ ∃ (a b c d f : Int), e = .returned (.tuple #[.agg #[.int .i64 a, .int .i64 b, .int .i64 c, .int .i64 d], .int .i64 f]) ∧ WitX RestP [z0, z1, z2, z3, z4, z5] l (a, b, c, d) f :=
  witness_gen z0 z1 z2 z3 z4 z5 ao len cap l w (fun _ => ⟨hP, ta, hI, h6⟩) hl
theorem witness_long (z0 z1 z2 z3 z4 z5 : Int) (ao : Option Addr) (len cap : Nat) (w : World) (h : 4096 < len) : Calls Tryz.prog 9 #[.agg #[.int .i64 z0, .int .i64 z1, .int .i64 z2, .int .i64 z3, .int .i64 z4, .int .i64 z5], .slice ao len cap] w fun e w' => Below w.heap.size w w' ∧ e = .returned (.tuple #[.agg #[.int .i64 0, .int .i64 0, .int .i64 0, .int .i64 0], .int .i64 4]) := by
  refine (witness_gen z0 z1 z2 z3 z4 z5 ao len cap (List.replicate len []) w (fun k => absurd k (by omega)) List.length_replicate).mono ?_
  rintro e w' ⟨hB, a, b, c, d, f, rfl, g, hc, q⟩
  obtain rfl := chk_long hc (.inl (by rw [List.length_replicate]; exact h))
  rcases q with ⟨_, e, rfl⟩ | ⟨q, _⟩
  · cases e
    exact ⟨hB, rfl⟩
  · cases q
end Go.Proofs.YthljhijcmdnonaaGreatDoor.cover
