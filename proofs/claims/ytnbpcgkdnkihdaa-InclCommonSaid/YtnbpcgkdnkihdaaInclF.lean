/-
  What the laws of layer 6 share: the answers' meaning, calls at told matrices; each theorem names its conditions.
-/
import Derived.Test.YtnbpcgkdnkihdaaInclD
import Derived.Test.YtnbpcgkdnkihdaaInclE
import Derived.OpenShut
namespace Go.Proofs.Ytnbpcgkdnkihdaa.ilaw
open Go.Joins Go.ChangeShapes Go.WideShapes Go.ChangeAt Go.RowKit num dbm way Go.Proofs.Ytnbpcgkdnkihdaa.incl Go.Proofs.Ytnbpcgkdnkihdaa.tlaw
open bound hiding up
set_option linter.unusedVariables false
set_option linter.unusedSimpArgs false

/-! answers of which all is told -/
theorem asks_yes {n : Int} {ts us : List Int} {V : Prop} {w w' : World} {e : Ending} (h : Asks n n ts us V w e w') (h1 : MayD n ts) (h2 : MayD n us) (hv : V) : e = .returned (.tuple #[.bool true, .int .i64 0]) ∧ Below w.heap.size w w' := by
  obtain ⟨hB, r, f, rfl, ⟨k, _⟩ | ⟨_, _, k, _⟩ | ⟨_, _, _, hr, rfl⟩⟩ := h
  · exact (k ⟨h1, h2⟩).elim
  · exact (k rfl).elim
  · rw [hr.2 hv]; exact ⟨rfl, hB⟩
theorem asks_no {n : Int} {ts us : List Int} {V : Prop} {w w' : World} {e : Ending} (h : Asks n n ts us V w e w') (h1 : MayD n ts) (h2 : MayD n us) (hv : ¬ V) : e = .returned (.tuple #[.bool false, .int .i64 0]) ∧ Below w.heap.size w w' := by
  obtain ⟨hB, r, f, rfl, ⟨k, _⟩ | ⟨_, _, k, _⟩ | ⟨_, _, _, hr, rfl⟩⟩ := h
  · exact (k ⟨h1, h2⟩).elim
  · exact (k rfl).elim
  · cases r with
    | false => exact ⟨rfl, hB⟩
    | true => exact (hv (hr.1 rfl)).elim
theorem asks_dim {n m : Int} {ts us : List Int} {V : Prop} {w w' : World} {e : Ending} (h : Asks n m ts us V w e w') (h1 : MayD n ts) (h2 : MayD m us) (hv : n ≠ m) : e = .returned (.tuple #[.bool false, .int .i64 40]) ∧ Below w.heap.size w w' := by
  obtain ⟨hB, r, f, rfl, ⟨k, _⟩ | ⟨_, _, _, rfl, rfl⟩ | ⟨_, _, k, _⟩⟩ := h
  · exact (k ⟨h1, h2⟩).elim
  · exact ⟨rfl, hB⟩
  · exact (hv k).elim
theorem pick_one {m : Nat} {ts : List Int} {p q : Int} {w w' : World} {e : Ending} (h : Pk m ts w e w') (hok : OkD m ts) (hp : pks m ts = [(p, q)]) : Below w.heap.size w w' ∧ ∃ b off cap, e = .returned (.tuple #[.slice (some ⟨b, off, none⟩) 1 cap, .int .i64 0]) ∧ b < w'.heap.size ∧ w'.cell? ⟨b, off, none⟩ = some (.int .i64 p) ∧ w'.cell? ⟨b, off + 1, none⟩ = some (.int .i64 q) := by
  obtain ⟨hB, v, f, rfl, ⟨k, _⟩ | ⟨_, rfl, m', e, hR⟩⟩ := h
  · exact (k hok).elim
  · obtain rfl : m = m' := by omega
    rw [hp] at hR
    rcases hR with ⟨_, h⟩ | ⟨b, off, cap, rfl, hb, hr⟩
    · cases h
    · have := hr 0 (by simp)
      refine ⟨hB, b, off, cap, rfl, hb, ?_, ?_⟩
      · have := this.1; simpa [pr] using this
      · have := this.2; simpa [pr] using this
theorem pick_none {m : Nat} {ts : List Int} {w w' : World} {e : Ending} (h : Pk m ts w e w') (hm : MayD m ts) (hok : ¬ OkD m ts) : Below w.heap.size w w' ∧ e = .returned (.tuple #[.slice none 0 0, .int .i64 6]) := by
  obtain ⟨hB, v, f, rfl, ⟨k, rfl, rfl⟩ | ⟨k, _⟩⟩ := h
  · rw [if_pos hm]; exact ⟨hB, rfl⟩
  · exact (hok k).elim

theorem two_is (a b c d : Int) (w : World) :
    Calls Try.prog 10 #[.int .i64 a, .int .i64 b, .int .i64 c, .int .i64 d] w fun e w' => ∃ g, w.heap.size ≤ g ∧ e = .returned (.agg #[.int .i64 2, .slice (some ⟨g, 0, none⟩) 4 4]) ∧ lies.Lies w' g 29 (cellsOf [a, b, c, d]) ∧ Below w.heap.size w w' := by
  go_enter Try.func10, Try.ntmps10
  go_wp2
  refine bodyPost_ret (v := .agg #[.int .i64 2, .slice (some ⟨w.heap.size + 1, 0, none⟩) 4 4]) (by simp [results, Try.results10, go_sem]) rfl ⟨w.heap.size + 1, by omega, rfl, ?_, bound.up2 _ _ _⟩
  exact lies.made_at _ _ _ _ (by simp)

/-- one of two clocks lies in another one; or doesn't, at a place. -/
theorem in2_yes {ts us : List Int} (hc : tabs 2 (by decide) ts 2 = ts) (h : ∀ p, p < 4 → ts[p]?.getD 0 ≤ us[p]?.getD 0) (hl : ts.length = 4) : inV 2 ts us := fun _ p hp => by
  have e : clT 2 ts = ts := (clT_nat (m := 2) (by decide) ts).trans hc
  rw [e]
  exact h p (by omega)
theorem in2_no {ts us : List Int} (hk : okB 2 (by decide) ts = true) (hc : tabs 2 (by decide) ts 2 = ts) (p : Nat) (hp : p < ts.length) (h : us[p]?.getD 0 < ts[p]?.getD 0) : ¬ inV 2 ts us := fun k => by
  have := k ((okB_iff (m := 2) (by decide) ts).1 hk) p hp
  have e : clT 2 ts = ts := (clT_nat (m := 2) (by decide) ts).trans hc
  rw [e] at this
  omega
theorem in_told (g b : Nat) (ts us : List Int) (w : World) (hg : lies.Lies w g 29 (cellsOf ts)) (hb : lies.Lies w b 29 (cellsOf us)) (h1 : MayD 2 ts) (h2 : MayD 2 us) (l1 : ts.length = 4) (l2 : us.length = 4) (t1 : Tops ts) (t2 : Tops us) :
    (inV 2 ts us → Calls Try.prog 13 #[.agg #[.int .i64 2, .slice (some ⟨g, 0, none⟩) 4 4], .agg #[.int .i64 2, .slice (some ⟨b, 0, none⟩) 4 4]] w fun e w' => e = .returned (.tuple #[.bool true, .int .i64 0]) ∧ Below w.heap.size w w') ∧
    (¬ inV 2 ts us → Calls Try.prog 13 #[.agg #[.int .i64 2, .slice (some ⟨g, 0, none⟩) 4 4], .agg #[.int .i64 2, .slice (some ⟨b, 0, none⟩) 4 4]] w fun e w' => e = .returned (.tuple #[.bool false, .int .i64 0]) ∧ Below w.heap.size w w') := by
  have i1 := dlaw.own_ints (cap := 4) hg
  have i2 := dlaw.own_ints (cap := 4) hb
  rw [l1] at i1
  rw [l2] at i2
  have := in_any 2 2 _ _ ts us w i1 i2 (by omega) (by omega) t1 t2
  exact ⟨fun v => this.mono fun e w' h => asks_yes h h1 h2 v, fun v => this.mono fun e w' h => asks_no h h1 h2 v⟩
theorem ap_told (g b : Nat) (ts us : List Int) (w : World) (hg : lies.Lies w g 29 (cellsOf ts)) (hb : lies.Lies w b 29 (cellsOf us)) (h1 : MayD 2 ts) (h2 : MayD 2 us) (l1 : ts.length = 4) (l2 : us.length = 4) (t1 : Tops ts) (t2 : Tops us) (v : apV 2 ts us) :
    Calls Try.prog 9 #[.agg #[.int .i64 2, .slice (some ⟨g, 0, none⟩) 4 4], .agg #[.int .i64 2, .slice (some ⟨b, 0, none⟩) 4 4]] w fun e w' => e = .returned (.tuple #[.bool true, .int .i64 0]) ∧ Below w.heap.size w w' := by
  have i1 := dlaw.own_ints (cap := 4) hg
  have i2 := dlaw.own_ints (cap := 4) hb
  rw [l1] at i1
  rw [l2] at i2
  exact (ap_any 2 2 _ _ ts us w i1 i2 (by omega) (by omega) t1 t2).mono fun e w' h => asks_yes h h1 h2 v
theorem pick_told (g : Nat) (ts : List Int) (w : World) (hg : lies.Lies w g 29 (cellsOf ts)) (l1 : ts.length = 4) (t1 : Tops ts) :
    Calls Try.prog 11 #[.agg #[.int .i64 2, .slice (some ⟨g, 0, none⟩) 4 4]] w (Pk 2 ts w) := by
  have i1 := dlaw.own_ints (cap := 4) hg
  rw [l1] at i1
  exact pick_any 2 _ ts w i1 (by omega) t1

set_option maxRecDepth 100000 in
set_option maxHeartbeats 2000000 in
theorem alive_yes (w : World) : Calls Try.prog 14 #[] w fun e w' => e = .returned (.bool true) ∧ Below w.heap.size w w' := by
  have v1 : inV 2 [1, -3, 9, 1] [1, -1, 9223372036854775807, 1] := in2_yes (by decide +kernel) (by decide) rfl
  have v2 : ¬ inV 2 [1, -1, 9223372036854775807, 1] [1, -3, 9, 1] := in2_no (by decide +kernel) (by decide +kernel) 1 (by decide) (by decide)
  have o1 : OkD (2 : Nat) [1, -3, 9, 1] := (okB_iff (m := 2) (by decide) _).1 (by decide +kernel)
  have p1 : pks 2 [1, -3, 9, 1] = [(2, 1)] := by decide +kernel
  have V1 := Lib.hid v1
  have V2 := Lib.hid v2
  have O1 := Lib.hid o1
  have P1 := Lib.hid p1
  clear v1 v2 o1 p1
  have S0 := Below.refl w.heap.size w
  go_enter Try.func14, Try.ntmps14
  go_wp2_with fail
  refine (two_is 1 (-3) 9 1 w).mono ?_
  rintro e w1 ⟨g1, hg1, rfl, L1, hB1⟩
  replace S0 := S0.trans (hB1.mono S0.size)
  clear hB1
  go_wp2_with fail
  refine (two_is 1 (-1) 9223372036854775807 1 w1).mono ?_
  rintro e w2 ⟨g2, hg2, rfl, L2, hB2⟩
  replace S0 := S0.trans (hB2.mono S0.size)
  replace L1 := lies.on_call L1 hB2
  clear hB2
  go_wp2_with fail
  refine ((in_told g1 g2 _ _ w2 L1 L2 (by decide) (by decide) rfl rfl (by unfold Tops; decide) (by unfold Tops; decide)).1 V1.out).mono ?_
  rintro e w3 ⟨rfl, hB3⟩
  replace S0 := S0.trans (hB3.mono S0.size)
  clear hB3 L1 L2 hg1 hg2
  go_wp2_with fail
  refine (two_is 1 (-1) 9223372036854775807 1 w3).mono ?_
  rintro e w4 ⟨g4, hg4, rfl, L4, hB4⟩
  replace S0 := S0.trans (hB4.mono S0.size)
  clear hB4
  go_wp2_with fail
  refine (two_is 1 (-3) 9 1 w4).mono ?_
  rintro e w5 ⟨g5, hg5, rfl, L5, hB5⟩
  replace S0 := S0.trans (hB5.mono S0.size)
  replace L4 := lies.on_call L4 hB5
  clear hB5
  go_wp2_with fail
  refine ((in_told g4 g5 _ _ w5 L4 L5 (by decide) (by decide) rfl rfl (by unfold Tops; decide) (by unfold Tops; decide)).2 V2.out).mono ?_
  rintro e w6 ⟨rfl, hB6⟩
  replace S0 := S0.trans (hB6.mono S0.size)
  clear hB6 L4 L5 hg4 hg5
  go_wp2_with fail
  refine (two_is 1 (-3) 9 1 w6).mono ?_
  rintro e w7 ⟨g7, hg7, rfl, L7, hB7⟩
  replace S0 := S0.trans (hB7.mono S0.size)
  clear hB7
  go_wp2_with fail
  refine (pick_told g7 _ w7 L7 rfl (by unfold Tops; decide)).mono ?_
  intro e w8 hp
  obtain ⟨hB8, b8, o8, c8, rfl, hb8, x0, x1⟩ := pick_one (m := 2) hp O1.out P1.out
  replace S0 := S0.trans (hB8.mono S0.size)
  clear hB8 hp L7 hg7
  go_wp2_with fail
  go_ret
  exact ⟨rfl, S0⟩
end Go.Proofs.Ytnbpcgkdnkihdaa.ilaw
