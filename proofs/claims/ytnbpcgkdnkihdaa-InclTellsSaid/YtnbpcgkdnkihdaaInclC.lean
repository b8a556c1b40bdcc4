/-
  The ends of a clock, and Pick, as package incl answers them; each theorem names its conditions.
-/
import Derived.Test.YtnbpcgkdnkihdaaInclB
namespace Go.Proofs.Ytnbpcgkdnkihdaa.incl
open Go.ChangeShapes Go.WideShapes Go.ChangeAt Go.RowKit num rat dbm
open bound hiding up
set_option linter.unusedVariables false
set_option linter.unusedSimpArgs false

/-- may a bound be added to a time? -/
def Fit (s x z : Int) : Prop := z = 9223372036854775807 ∨ (May (z / 2) ∧ Near x ∧ Near (x + 8 * (s * (z / 2))))
theorem setL {W : World} {g s : Nat} {z : Int} {x y : Option Int} (h : lies.Lies W g 57 (endL z x)) {a d : Bool} {b c : Int} (e : endL z y = #[.bool a, .int .i64 b, .int .i64 c, .bool d]) : lies.Lies ((((W.setCell ⟨g, 0, none⟩ (.bool a)).setCell ⟨g, 1, none⟩ (.int .i64 b)).setCell ⟨g, 2, none⟩ (.int .i64 c)).setCell ⟨g, 3, none⟩ (.bool d)) g 57 (endL z y) := by
  obtain ⟨a', d', b', c', e', _⟩ := endL_four z x
  rw [e'] at h
  rw [e]
  exact lies.on_put (lies.on_put (lies.on_put (lies.on_put h 0 (.bool a)) 1 (.int .i64 b)) 2 (.int .i64 c)) 3 (.bool d)
theorem far4 {W : World} {g q : Nat} {t : TypeId} {cs : Array Value} (h : lies.Lies W g t cs) (hne : g ≠ q) (a b c d : Value) : lies.Lies ((((W.setCell ⟨q, 0, none⟩ a).setCell ⟨q, 1, none⟩ b).setCell ⟨q, 2, none⟩ c).setCell ⟨q, 3, none⟩ d) g t cs :=
  lies.on_far (lies.on_far (lies.on_far (lies.on_far h (b := q) 0 hne a) (b := q) 1 hne b) (b := q) 2 hne c) (b := q) 3 hne d
set_option maxRecDepth 100000 in
set_option maxHeartbeats 4000000 in
theorem ends_is (n i b off cap tb toff tcap : Nat) (X : Nat → Int) (ts : List Int) (rs : List (Int × Int)) (w : World) (hn : n ≤ 4) (hi : i < n) (hr : Row w b off ts) (hb : b < w.heap.size) (hl : ts.length = n * n)
    (hR : RowR w tb toff rs) (htb : tb < w.heap.size) (hrs : rs.length = i) (hpr : ∀ j, j < i → pr rs j = (p8 (X j), q8 (X j)))
    (hlo : ∀ j, j < i → Fit (-1) (X j) (ts[j * n + i]?.getD 0)) (hhi : ∀ j, j < i → Fit 1 (X j) (ts[i * n + j]?.getD 0)) :
    Calls Try.prog 29 #[.agg #[.int .i64 n, .slice (some ⟨b, off, none⟩) (n * n) cap], .int .i64 i, .slice (some ⟨tb, toff, none⟩) i tcap] w fun e w' => e = .returned (.tuple #[endV (-1) (endC (-1) X (fun j => cod (ts[j * n + i]?.getD 0)) i), endV 1 (endC 1 X (fun j => cod (ts[i * n + j]?.getD 0)) i)]) ∧ Below w.heap.size w w' := by
  obtain ⟨ea, ed, eb, ec, eL, eV⟩ := endL_four (-1) (endC (-1) X (fun j => cod (ts[j * n + i]?.getD 0)) i)
  obtain ⟨ga, gd, gb, gc, gL, gV⟩ := endL_four 1 (endC 1 X (fun j => cod (ts[i * n + j]?.getD 0)) i)
  rw [eV, gV]
  have HEV := Lib.hid eV
  have HGV := Lib.hid gV
  have HR := Lib.hid hr
  have HRR := Lib.hid hR
  have HPR := Lib.hid hpr
  have HLO := Lib.hid hlo
  have HHI := Lib.hid hhi
  have HL := Lib.hid hl
  have HRS := Lib.hid hrs
  clear eL gL eV gV hr hR hpr hlo hhi hl hrs
  have D0 := lies.on_alloc (lies.on_alloc (lies.on_alloc (lies.on_alloc (lies.made_at w 27 #[.int .i64 n, .slice (some ⟨b, off, none⟩) (n * n) cap] (w.heap.size) (by simp)) (.cells #[.int .i64 i] 3)) (.cells #[.slice (some ⟨tb, toff, none⟩) i tcap] 30)) (.cells #[.bool false, .int .i64 0, .int .i64 0, .bool false] 57)) (.cells #[.bool false, .int .i64 0, .int .i64 0, .bool false] 57)
  have D1 := lies.on_alloc (lies.on_alloc (lies.on_alloc (lies.made_at (w.alloc (.cells #[.int .i64 n, .slice (some ⟨b, off, none⟩) (n * n) cap] 27)) 3 #[.int .i64 i] (w.heap.size + 1) (by simp)) (.cells #[.slice (some ⟨tb, toff, none⟩) i tcap] 30)) (.cells #[.bool false, .int .i64 0, .int .i64 0, .bool false] 57)) (.cells #[.bool false, .int .i64 0, .int .i64 0, .bool false] 57)
  have D2 := lies.on_alloc (lies.on_alloc (lies.made_at ((w.alloc (.cells #[.int .i64 n, .slice (some ⟨b, off, none⟩) (n * n) cap] 27)).alloc (.cells #[.int .i64 i] 3)) 30 #[.slice (some ⟨tb, toff, none⟩) i tcap] (w.heap.size + 1 + 1) (by simp)) (.cells #[.bool false, .int .i64 0, .int .i64 0, .bool false] 57)) (.cells #[.bool false, .int .i64 0, .int .i64 0, .bool false] 57)
  have D3 := lies.on_alloc (lies.made_at (((w.alloc (.cells #[.int .i64 n, .slice (some ⟨b, off, none⟩) (n * n) cap] 27)).alloc (.cells #[.int .i64 i] 3)).alloc (.cells #[.slice (some ⟨tb, toff, none⟩) i tcap] 30)) 57 #[.bool false, .int .i64 0, .int .i64 0, .bool false] (w.heap.size + 1 + 1 + 1) (by simp)) (.cells #[.bool false, .int .i64 0, .int .i64 0, .bool false] 57)
  have D4 := lies.made_at ((((w.alloc (.cells #[.int .i64 n, .slice (some ⟨b, off, none⟩) (n * n) cap] 27)).alloc (.cells #[.int .i64 i] 3)).alloc (.cells #[.slice (some ⟨tb, toff, none⟩) i tcap] 30)).alloc (.cells #[.bool false, .int .i64 0, .int .i64 0, .bool false] 57)) 57 #[.bool false, .int .i64 0, .int .i64 0, .bool false] (w.heap.size + 1 + 1 + 1 + 1) (by simp)
  have DB := lies.frame_up (lies.frame_up (lies.frame_up (lies.frame_up (bound.up1 w (.cells #[.int .i64 n, .slice (some ⟨b, off, none⟩) (n * n) cap] 27)) (.cells #[.int .i64 i] 3)) (.cells #[.slice (some ⟨tb, toff, none⟩) i tcap] 30)) (.cells #[.bool false, .int .i64 0, .int .i64 0, .bool false] 57)) (.cells #[.bool false, .int .i64 0, .int .i64 0, .bool false] 57)
  go_enter Try.func29, Try.ntmps29
  go_wp2_with fail
  generalize (((((w.alloc (.cells #[.int .i64 n, .slice (some ⟨b, off, none⟩) (n * n) cap] 27)).alloc (.cells #[.int .i64 i] 3)).alloc (.cells #[.slice (some ⟨tb, toff, none⟩) i tcap] 30)).alloc (.cells #[.bool false, .int .i64 0, .int .i64 0, .bool false] 57)).alloc (.cells #[.bool false, .int .i64 0, .int .i64 0, .bool false] 57)) = w0 at D0 D1 D2 D3 D4 DB ⊢
  refine (nearest2_is (s := -1) (.inr rfl) w.heap.size (w.heap.size + 1) (fun j => j * n + i) n i b off cap tb toff tcap (w.heap.size + 1 + 1) w.heap.size X ts rs w0 hn (by omega) D2 D0 (HR.out.below DB hb) (Nat.lt_of_lt_of_le hb DB.size) HL.out (HRR.out.below DB htb) (Nat.lt_of_lt_of_le htb DB.size) HRS.out HPR.out (fun j hj => place_le hn (by omega) hi) (fun j hj W hW => place2_is n i j _ _ _ W hn hi (by omega) (lies.on_call D0 hW) (lies.on_call D1 hW)) HLO.out).mono ?_
  rintro e w1 ⟨rfl, hB⟩
  rw [HEV.out]
  replace D0 := lies.on_call D0 hB
  replace D1 := lies.on_call D1 hB
  replace D2 := lies.on_call D2 hB
  replace D3 := lies.on_call D3 hB
  replace D4 := lies.on_call D4 hB
  replace DB := later DB hB
  clear hB
  obtain ⟨x0, x1, x2, x3, x4⟩ := four D3
  obtain ⟨f0, f1, f2, f3⟩ := fourF D3
  go_wp2_with fail
  clear x0 x1 x2 x3 x4 f0 f1 f2 f3
  replace D0 := far4 D0 (q := w.heap.size + 1 + 1 + 1) (by omega) (.bool ea) (.int .i64 eb) (.int .i64 ec) (.bool ed)
  replace D1 := far4 D1 (q := w.heap.size + 1 + 1 + 1) (by omega) (.bool ea) (.int .i64 eb) (.int .i64 ec) (.bool ed)
  replace D2 := far4 D2 (q := w.heap.size + 1 + 1 + 1) (by omega) (.bool ea) (.int .i64 eb) (.int .i64 ec) (.bool ed)
  replace D4 := far4 D4 (q := w.heap.size + 1 + 1 + 1) (by omega) (.bool ea) (.int .i64 eb) (.int .i64 ec) (.bool ed)
  replace D3 := lies.on_put (lies.on_put (lies.on_put (lies.on_put D3 0 (.bool ea)) 1 (.int .i64 eb)) 2 (.int .i64 ec)) 3 (.bool ed)
  replace DB := set4 DB (g := w.heap.size + 1 + 1 + 1) (by omega) (.bool ea) (.int .i64 eb) (.int .i64 ec) (.bool ed)
  replace D3 : lies.Lies ((((w1.setCell ⟨w.heap.size + 1 + 1 + 1, 0, none⟩ (.bool ea)).setCell ⟨w.heap.size + 1 + 1 + 1, 1, none⟩ (.int .i64 eb)).setCell ⟨w.heap.size + 1 + 1 + 1, 2, none⟩ (.int .i64 ec)).setCell ⟨w.heap.size + 1 + 1 + 1, 3, none⟩ (.bool ed)) (w.heap.size + 1 + 1 + 1) 57 #[.bool ea, .int .i64 eb, .int .i64 ec, .bool ed] := D3
  generalize (((w1.setCell ⟨w.heap.size + 1 + 1 + 1, 0, none⟩ (.bool ea)).setCell ⟨w.heap.size + 1 + 1 + 1, 1, none⟩ (.int .i64 eb)).setCell ⟨w.heap.size + 1 + 1 + 1, 2, none⟩ (.int .i64 ec)).setCell ⟨w.heap.size + 1 + 1 + 1, 3, none⟩ (.bool ed) = w2 at D0 D1 D2 D3 D4 DB ⊢
  refine (nearest3_is (s := 1) (.inl rfl) (w.heap.size + 1) w.heap.size (fun j => i * n + j) n i b off cap tb toff tcap (w.heap.size + 1 + 1) w.heap.size X ts rs w2 hn (by omega) D2 D0 (HR.out.below DB hb) (Nat.lt_of_lt_of_le hb DB.size) HL.out (HRR.out.below DB htb) (Nat.lt_of_lt_of_le htb DB.size) HRS.out HPR.out (fun j hj => place_le hn hi (by omega)) (fun j hj W hW => place3_is n i j _ _ _ W hn hi (by omega) (lies.on_call D0 hW) (lies.on_call D1 hW)) HHI.out).mono ?_
  rintro e w3 ⟨rfl, hB⟩
  rw [HGV.out]
  replace D3 := lies.on_call D3 hB
  replace D4 := lies.on_call D4 hB
  replace DB := later DB hB
  clear hB D0 D1 D2
  obtain ⟨x0, x1, x2, x3, x4⟩ := four D4
  obtain ⟨f0, f1, f2, f3⟩ := fourF D4
  go_wp2_with fail
  clear x0 x1 x2 x3 x4 f0 f1 f2 f3
  replace D3 := far4 D3 (q := w.heap.size + 1 + 1 + 1 + 1) (by omega) (.bool ga) (.int .i64 gb) (.int .i64 gc) (.bool gd)
  replace D4 := lies.on_put (lies.on_put (lies.on_put (lies.on_put D4 0 (.bool ga)) 1 (.int .i64 gb)) 2 (.int .i64 gc)) 3 (.bool gd)
  replace DB := set4 DB (g := w.heap.size + 1 + 1 + 1 + 1) (by omega) (.bool ga) (.int .i64 gb) (.int .i64 gc) (.bool gd)
  replace D4 : lies.Lies ((((w3.setCell ⟨w.heap.size + 1 + 1 + 1 + 1, 0, none⟩ (.bool ga)).setCell ⟨w.heap.size + 1 + 1 + 1 + 1, 1, none⟩ (.int .i64 gb)).setCell ⟨w.heap.size + 1 + 1 + 1 + 1, 2, none⟩ (.int .i64 gc)).setCell ⟨w.heap.size + 1 + 1 + 1 + 1, 3, none⟩ (.bool gd)) (w.heap.size + 1 + 1 + 1 + 1) 57 #[.bool ga, .int .i64 gb, .int .i64 gc, .bool gd] := D4
  generalize (((w3.setCell ⟨w.heap.size + 1 + 1 + 1 + 1, 0, none⟩ (.bool ga)).setCell ⟨w.heap.size + 1 + 1 + 1 + 1, 1, none⟩ (.int .i64 gb)).setCell ⟨w.heap.size + 1 + 1 + 1 + 1, 2, none⟩ (.int .i64 gc)).setCell ⟨w.heap.size + 1 + 1 + 1 + 1, 3, none⟩ (.bool gd) = w4 at D3 D4 DB ⊢
  generalize hu : w.heap.size + 1 + 1 + 1 = u at D3 D4 ⊢
  have hS : ∀ W, lies.Lies W u 57 #[.bool ea, .int .i64 eb, .int .i64 ec, .bool ed] → lies.Lies W (u + 1) 57 #[.bool ga, .int .i64 gb, .int .i64 gc, .bool gd] → (W.cell? ⟨u, 0, none⟩ = some (.bool ea) ∧ W.cell? ⟨u, 1, none⟩ = some (.int .i64 eb) ∧ W.cell? ⟨u, 2, none⟩ = some (.int .i64 ec) ∧ W.cell? ⟨u, 3, none⟩ = some (.bool ed)) ∧ W.cell? ⟨u + 1, 0, none⟩ = some (.bool ga) ∧ W.cell? ⟨u + 1, 1, none⟩ = some (.int .i64 gb) ∧ W.cell? ⟨u + 1, 2, none⟩ = some (.int .i64 gc) ∧ W.cell? ⟨u + 1, 3, none⟩ = some (.bool gd) := fun W h k =>
    ⟨⟨lies.cell h 0, lies.cell h 1, lies.cell h 2, lies.cell h 3⟩, lies.cell k 0, lies.cell k 1, lies.cell k 2, lies.cell k 3⟩
  have HS := Lib.hid hS
  clear hS
  have P3 : lies.Lies w4.drew u 57 #[.bool ea, .int .i64 eb, .int .i64 ec, .bool ed] := D3
  have P4 : lies.Lies w4.drew (u + 1) 57 #[.bool ga, .int .i64 gb, .int .i64 gc, .bool gd] := D4
  have PB : Below w.heap.size w w4.drew := lies.frame_drew DB
  refine wp_region_held_drew (S := fun W => (W.cell? ⟨u, 0, none⟩ = some (.bool ea) ∧ W.cell? ⟨u, 1, none⟩ = some (.int .i64 eb) ∧ W.cell? ⟨u, 2, none⟩ = some (.int .i64 ec) ∧ W.cell? ⟨u, 3, none⟩ = some (.bool ed)) ∧ W.cell? ⟨u + 1, 0, none⟩ = some (.bool ga) ∧ W.cell? ⟨u + 1, 1, none⟩ = some (.int .i64 gb) ∧ W.cell? ⟨u + 1, 2, none⟩ = some (.int .i64 gc) ∧ W.cell? ⟨u + 1, 3, none⟩ = some (.bool gd)) (by kernel_rfl) (HS.out _ P3 P4) (fun hHeld => ?_)
  refine wpAnyH_take (i := 0) (v := ?_) rfl (by kernel_rfl) (by kernel_rfl) (by kernel_rfl) (fun _ _ _ h => h) (Or.inl ⟨by rfl, ?_⟩) hHeld ?_
  rotate_left
  · intro w hSw; obtain ⟨⟨s0, s1, s2, s3⟩, s4, s5, s6, s7⟩ := hSw; go_simp; try with_reducible rfl
  try simp only [Act.put, List.getElem_toArray, List.getElem_cons_zero, List.getElem_cons_succ, List.setIfInBounds_toArray, List.set_cons_zero, List.set_cons_succ]
  refine wpAnyH_take (i := 1) (v := ?_) rfl (by kernel_rfl) (by kernel_rfl) (by kernel_rfl) (fun _ _ _ h => h) (Or.inl ⟨by rfl, ?_⟩) hHeld ?_
  rotate_left
  · intro w hSw; obtain ⟨⟨s0, s1, s2, s3⟩, s4, s5, s6, s7⟩ := hSw; go_simp; try with_reducible rfl
  try simp only [Act.put, List.getElem_toArray, List.getElem_cons_zero, List.getElem_cons_succ, List.setIfInBounds_toArray, List.set_cons_zero, List.set_cons_succ]
  clear D3 D4 DB
  generalize w4.drew = w5 at P3 P4 PB hHeld ⊢
  obtain ⟨x0, x1, x2, x3, x4⟩ := four P3
  obtain ⟨f0, f1, f2, f3⟩ := fourF P3
  refine wpAnyH_ready (rs := [2]) (by kernel_rfl) (by simp) (AllReadyH.cons rfl (fun K hK => ?_) AllReadyH.nil)
  go_simp
  clear x0 x1 x2 x3 x4 f0 f1 f2 f3
  replace P3 := lies.on_put (lies.on_put (lies.on_put (lies.on_put P3 0 (.bool ea)) 1 (.int .i64 eb)) 2 (.int .i64 ec)) 3 (.bool ed)
  replace P4 := far4 P4 (q := u) (by omega) (.bool ea) (.int .i64 eb) (.int .i64 ec) (.bool ed)
  replace PB := set4 PB (g := u) (by omega) (.bool ea) (.int .i64 eb) (.int .i64 ec) (.bool ed)
  replace P3 : lies.Lies ((((w5.setCell ⟨u, 0, none⟩ (.bool ea)).setCell ⟨u, 1, none⟩ (.int .i64 eb)).setCell ⟨u, 2, none⟩ (.int .i64 ec)).setCell ⟨u, 3, none⟩ (.bool ed)) u 57 #[.bool ea, .int .i64 eb, .int .i64 ec, .bool ed] := P3
  refine hK.out _ _ (HS.out _ P3 P4) (fun hNew => ?_)
  clear hHeld hK K
  have hHeld := hNew
  clear hNew
  try simp only [Act.put, List.getElem_toArray, List.getElem_cons_zero, List.getElem_cons_succ, List.setIfInBounds_toArray, List.set_cons_zero, List.set_cons_succ]
  generalize (((w5.setCell ⟨u, 0, none⟩ (.bool ea)).setCell ⟨u, 1, none⟩ (.int .i64 eb)).setCell ⟨u, 2, none⟩ (.int .i64 ec)).setCell ⟨u, 3, none⟩ (.bool ed) = w6 at P3 P4 PB hHeld ⊢
  obtain ⟨x0, x1, x2, x3, x4⟩ := four P4
  obtain ⟨f0, f1, f2, f3⟩ := fourF P4
  refine wpAnyH_ready (rs := [3]) (by kernel_rfl) (by simp) (AllReadyH.cons rfl (fun K hK => ?_) AllReadyH.nil)
  go_simp
  clear x0 x1 x2 x3 x4 f0 f1 f2 f3
  replace P4 := lies.on_put (lies.on_put (lies.on_put (lies.on_put P4 0 (.bool ga)) 1 (.int .i64 gb)) 2 (.int .i64 gc)) 3 (.bool gd)
  replace P3 := far4 P3 (q := u + 1) (by omega) (.bool ga) (.int .i64 gb) (.int .i64 gc) (.bool gd)
  replace PB := set4 PB (g := u + 1) (by omega) (.bool ga) (.int .i64 gb) (.int .i64 gc) (.bool gd)
  replace P4 : lies.Lies ((((w6.setCell ⟨u + 1, 0, none⟩ (.bool ga)).setCell ⟨u + 1, 1, none⟩ (.int .i64 gb)).setCell ⟨u + 1, 2, none⟩ (.int .i64 gc)).setCell ⟨u + 1, 3, none⟩ (.bool gd)) (u + 1) 57 #[.bool ga, .int .i64 gb, .int .i64 gc, .bool gd] := P4
  refine hK.out _ _ (HS.out _ P3 P4) (fun hNew => ?_)
  clear hK K hNew hHeld
  generalize (((w6.setCell ⟨u + 1, 0, none⟩ (.bool ga)).setCell ⟨u + 1, 1, none⟩ (.int .i64 gb)).setCell ⟨u + 1, 2, none⟩ (.int .i64 gc)).setCell ⟨u + 1, 3, none⟩ (.bool gd) = w7 at P3 P4 PB ⊢
  refine wpAnyH_done (by kernel_rfl) ?_ _
  obtain ⟨x0, x1, x2, x3, x4⟩ := four P3
  obtain ⟨y0, y1, y2, y3, y4⟩ := four P4
  go_wp2_with fail
  exact bodyPost_ret (v := .tuple #[.agg #[.bool ea, .int .i64 eb, .int .i64 ec, .bool ed], .agg #[.bool ga, .int .i64 gb, .int .i64 gc, .bool gd]]) (by simp [results, Try.results29, go_sem, x0, x1, x2, x3, y0, y1, y2, y3]) rfl ⟨rfl, PB⟩
end Go.Proofs.Ytnbpcgkdnkihdaa.incl
