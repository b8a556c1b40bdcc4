/-
  Pick, as package incl answers it; each theorem names its conditions.
-/
import Derived.Test.YtnbpcgkdnkihdaaInclC
namespace Go.Proofs.Ytnbpcgkdnkihdaa.incl
open Go.ChangeShapes Go.WideShapes Go.ChangeAt Go.RowKit num rat dbm way
open bound hiding up
set_option linter.unusedVariables false
set_option linter.unusedSimpArgs false

/-! what is known of the closed table of a matrix -/
section
variable {n : Nat} {ts : List Int} (h0 : 0 < n) (hn : n ≤ 4) (hl : ts.length = n * n) (htop : Tops ts) (h : OkD n ts)
include h0 hn hl htop h
theorem wts_closed : wts n (clT n ts) = F (beg n ts) n := by
  have hne : ∀ k, k ≤ n → ¬ emp n (tabs n h0 ts k) := fun k hk => h.2.2 k (by simpa using hk)
  rw [clT_nat h0]
  funext i j
  by_cases hij : i < n ∧ j < n
  · rw [wts_in hij.1 hij.2]
    exact tabs_is h0 hn hl htop h.1.2.2.2 n (Nat.le_refl _) (fun m hm => hne m (by omega)) i j hij.1 hij.2
  · rw [← beg_closed h0 hn hl htop h]
    have e1 : beg n (tabs n h0 ts n) i j = none := if_neg hij
    have e2 : wts n (tabs n h0 ts n) i j = none := if_neg hij
    rw [e1, e2]
theorem clo_good : way.Good (beg n ts) n := (okD_good h0 hn hl htop h.1).1 h
theorem clo_one (i : Nat) (hi : i < n) : F (beg n ts) n i i = way.one := by
  have hne : ∀ k, k ≤ n → ¬ emp n (tabs n h0 ts k) := fun k hk => h.2.2 k (by simpa using hk)
  rw [← wts_closed h0 hn hl htop h, wts_in hi hi, clT_nat h0, closed_diag h0 hn hl htop h.1.2.2.2 hne hi]
  rfl
theorem clo_px {u : Nat} (hu : u < n) : -6917529027641081880 ≤ px (wts n (clT n ts)) u ∧ px (wts n (clT n ts)) u ≤ 6917529027641081880 := by
  rw [wts_closed h0 hn hl htop h]
  have := px_within hn (M := 288230376151711744) (by decide) (fun i j => beg_wi hl hn h.1.2.2.2 i j) (fun i j hi => wts_out hi) (fun i j hj => wts_out2 hj) (clo_good h0 hn hl htop h) (clo_one h0 hn hl htop h) hu
  omega
theorem clo_wi {i j : Nat} (hi : i < n) {a : Int} (e : wts n (clT n ts) i j = some a) : -1152921504606846976 ≤ a / 2 ∧ a / 2 ≤ 1152921504606846976 := by
  rw [wts_closed h0 hn hl htop h] at e
  have := F_within1 (M := 288230376151711744) (by decide) (fun i j => beg_wi hl hn h.1.2.2.2 i j) (clo_good h0 hn hl htop h) hi j
  rw [e] at this
  have h1 : -(288230376151711744 * (n : Int)) ≤ a / 2 := this.1
  have h2 : a / 2 ≤ 288230376151711744 * (n : Int) := this.2
  omega
theorem clo_near {u : Nat} (hu : u < n) : Near (px (wts n (clT n ts)) u) := by
  have := clo_px h0 hn hl htop h hu
  exact ⟨⟨by omega, by omega⟩, .inr ⟨by omega, by omega⟩⟩
theorem clo_fit {s : Int} (hs : s = 1 ∨ s = -1) {i j k : Nat} (hi : i < n) (hj : j < n) (hk : k < 3) (hkn : k < n) : Fit s (px (wts n (clT n ts)) k) (tat (clT n ts) n i j) := by
  by_cases hz : tat (clT n ts) n i j = 9223372036854775807
  · exact .inl hz
  · have e : wts n (clT n ts) i j = some (tat (clT n ts) n i j) := by rw [wts_in hi hj, cod_some hz]
    have h1 := clo_wi h0 hn hl htop h hi e
    have h2 := clo_px h0 hn hl htop h hkn
    have h3 := px_even (wts n (clT n ts)) hk
    generalize tat (clT n ts) n i j = z at hz h1 ⊢
    refine .inr ⟨⟨by omega, by omega⟩, ⟨⟨by omega, by omega⟩, .inl h3⟩, ?_⟩
    rcases hs with rfl | rfl
    · exact ⟨⟨by omega, by omega⟩, .inl (by omega)⟩
    · exact ⟨⟨by omega, by omega⟩, .inl (by omega)⟩
end

/-- the times that are picked, so far. -/
def rsOf (D : Tab) (k : Nat) : List (Int × Int) := (xs D k).map fun X => (p8 X, q8 X)
theorem rsOf_length (D : Tab) (k : Nat) : (rsOf D k).length = k + 1 := by unfold rsOf; rw [List.length_map, xs_length]
theorem rsOf_at (D : Tab) {k j : Nat} (h : j ≤ k) : pr (rsOf D k) j = (p8 (px D j), q8 (px D j)) := by
  unfold pr rsOf
  rw [List.getElem?_map, ← xs_at D k j h]
  have : j < (xs D k).length := by rw [xs_length]; omega
  rw [List.getElem?_eq_getElem this]
  rfl
theorem rsOf_up (D : Tab) (k : Nat) : rsOf D (k + 1) = rsOf D k ++ [(p8 (px D (k + 1)), q8 (px D (k + 1)))] := by
  have e : xs D (k + 1) = xs D k ++ [px D (k + 1)] := by
    have h1 : xs D (k + 1) = xs D k ++ [btw (endC (-1) (fun j => (xs D k)[j]?.getD 0) (fun j => D j (k + 1)) (k + 1)) (endC 1 (fun j => (xs D k)[j]?.getD 0) (fun j => D (k + 1) j) (k + 1))] := rfl
    have h2 := xs_at D (k + 1) (k + 1) (Nat.le_refl _)
    rw [← h2]
    rw [h1, List.getElem?_append_right (by rw [xs_length]; omega), xs_length]
    simp
  unfold rsOf
  rw [e, List.map_append]
  rfl
theorem flat_up1 (D : Tab) (k : Nat) : flat (rsOf D (k + 1)) = flat (rsOf D k) ++ [.int .i64 (p8 (px D (k + 1))), .int .i64 (q8 (px D (k + 1)))] := by
  rw [rsOf_up]
  simp [flat, List.flatMap_append]

theorem own_call {W X : World} {base n s : Nat} {t : TypeId} {v : Value} {xs : List Value} (h : W.ownsRow base t s v n xs) (k : Below W.heap.size W X) : X.ownsRow base t s v n xs :=
  h.kept (row := none) ⟨k.os, k.tape, k.output, k.size, fun i hi _ => k.block i hi⟩ (by cases v.ownBlock <;> simp)
theorem two_new {W : World} {g : Nat} {t : TypeId} {x y : Value} (h : lies.Lies W g t #[x, y]) (p : Nat) (u : Value) (hp : [x, y][p]? = some u) : W.cell? ((⟨g, 0, none⟩ : Addr).add p) = some u := by
  have := lies.cell h p
  rcases p with _ | _ | p
  · cases hp; exact this
  · cases hp; exact this
  · simp at hp

/-- what lies there while times are picked: the closed matrix in a box, its bounds, and the times. -/
def Pi (n CB cg cc base : Nat) (us : List Int) (D : Tab) (k : Nat) (v : Value) (w W : World) : Prop :=
  lies.Lies W CB 27 #[.int .i64 n, .slice (some ⟨cg, 0, none⟩) (n * n) cc] ∧ lies.Lies W cg 29 (cellsOf us) ∧ Below w.heap.size w W ∧ W.ownsRow base 36 2 v (k + 1) (flat (rsOf D k)) ∧ base ≤ W.heap.size
theorem Pi.below {n CB cg cc base : Nat} {us : List Int} {D : Tab} {k : Nat} {v : Value} {w W X : World} (h : Pi n CB cg cc base us D k v w W) (q : Below W.heap.size W X) : Pi n CB cg cc base us D k v w X :=
  ⟨lies.on_call h.1 q, lies.on_call h.2.1 q, h.2.2.1.trans (q.mono h.2.2.1.size), own_call h.2.2.2.1 q, Nat.le_trans h.2.2.2.2 q.size⟩
theorem Pi.push {n CB cg cc base : Nat} {us : List Int} {D : Tab} {k : Nat} {v v' : Value} {w W W' : World} {o : Obj} (h : Pi n CB cg cc base us D k v w W) (hwb : w.heap.size ≤ base) (hcb : CB < base) (hcg : cg < base)
    (hown : W'.ownsRow base 36 2 v' (k + 1 + 1) (flat (rsOf D k) ++ [.int .i64 (p8 (px D (k + 1))), .int .i64 (q8 (px D (k + 1)))])) (hgrow : (W.alloc o).grownBy W' v.ownBlock) : Pi n CB cg cc base us D (k + 1) v' w W' := by
  obtain ⟨h1, h2, h3, h4, h5⟩ := h
  have hb : ∀ q, v.ownBlock = some q → base ≤ q := fun q e => (h4.lt q e).1
  refine ⟨?_, ?_, (lies.frame_up h3 o).grown hgrow (by have := h3.size; simp; omega) (fun q e => Nat.le_trans hwb (hb q e)), ?_, ?_⟩
  · exact (World.grownBy.block hgrow CB (lies.lt (lies.on_alloc h1 o)) (fun e => by have := hb CB e.symm; omega)).trans (lies.on_alloc h1 o)
  · exact (World.grownBy.block hgrow cg (lies.lt (lies.on_alloc h2 o)) (fun e => by have := hb cg e.symm; omega)).trans (lies.on_alloc h2 o)
  · rw [flat_up1]; exact hown
  · have := hgrow.size; simp at this; omega
theorem own_cap {W : World} {base g n cap s : Nat} {t : TypeId} {xs : List Value} (h : W.ownsRow base t s (.slice (some ⟨g, 0, none⟩) n cap) n xs) : n ≤ cap := by
  rcases h.2 with ⟨h, _⟩ | ⟨g', cap', cur, h, _, _, k, _⟩
  · cases h
  · cases h; exact k
/-- the times that are picked of a matrix. -/
def pks (m : Nat) (ts : List Int) : List (Int × Int) := (rsOf (wts m (clT m ts)) (m - 1)).drop 1
theorem pks_length (m : Nat) (ts : List Int) : (pks m ts).length = m - 1 := by unfold pks; rw [List.length_drop, rsOf_length]; omega
theorem pks_at (m : Nat) (ts : List Int) {j : Nat} (h : j < m - 1) : pr (pks m ts) j = (p8 (px (wts m (clT m ts)) (j + 1)), q8 (px (wts m (clT m ts)) (j + 1))) := by
  rw [← rsOf_at (wts m (clT m ts)) (k := m - 1) (j := j + 1) (by omega)]
  unfold pks pr
  rw [List.getElem?_drop, Nat.add_comm]
theorem pks_row {W : World} {g m : Nat} {ts : List Int} (h : RowR W g 0 (rsOf (wts m (clT m ts)) (m - 1))) : RowR W g 2 (pks m ts) := fun j hj => by
  rw [pks_length] at hj
  have := h (j + 1) (by rw [rsOf_length]; omega)
  rw [rsOf_at _ (by omega)] at this
  rw [pks_at m ts hj]
  rw [show 0 + (j + 1) * 2 = 2 + j * 2 by omega] at this
  exact this
/-- what Pick answers. -/
def Pk (n : Int) (ts : List Int) (w : World) (e : Ending) (w' : World) : Prop := Below w.heap.size w w' ∧ ∃ (v : Value) (f : Int), e = .returned (.tuple #[v, .int .i64 f]) ∧
  ((¬ OkD n ts ∧ v = .slice none 0 0 ∧ f = if MayD n ts then 6 else 8) ∨ (OkD n ts ∧ f = 0 ∧ ∃ m : Nat, n = (m : Int) ∧ Rats w'.heap.size w' v (pks m ts)))
set_option maxRecDepth 100000 in
set_option maxHeartbeats 2000000 in
theorem pick_no (n : Int) (sv : Value) (ts : List Int) (w : World) (hI : law.Ints w.heap.size w sv ts) (hm : ts.length ≤ 1000000) (htop : Tops ts) (h : ¬ OkD n ts) :
    Calls Try.prog 11 #[.agg #[.int .i64 n, sv]] w (Pk n ts w) := by
  have D0 := lies.made w 27 #[.int .i64 n, sv]
  have DB := bound.up1 w (.cells #[.int .i64 n, sv] 27)
  have C := Lib.hid (tight.close_g n sv ts _ ((hI.below DB).mono DB.size) hm htop)
  obtain ⟨ad, cap, rfl⟩ := ints_len hI
  have HN := Lib.hid h
  clear hI htop h
  go_enter Try.func11, Try.ntmps11
  go_wp2_with fail
  refine C.out.mono ?_
  rintro e w1 ⟨hB, na, aa, la, ca, us, f, rfl, hA, hK⟩
  have hf : f ≠ 0 ∧ f = if MayD n ts then 6 else 8 := by
    rcases hA with ⟨_, rfl, rfl, rfl⟩ | ⟨k, _⟩
    · exact ⟨by split <;> decide, rfl⟩
    · exact (HN.out k).elim
  have t1 : (f != 0) = true := by simpa using hf.1
  have t2 : (f == 0) = false := by simpa using hf.1
  replace DB := later DB hB
  have HF := Lib.hid hf
  clear hB hA hK D0 C hf
  go_wp2_with fail
  refine bodyPost_ret (v := .tuple #[.slice none 0 0, .int .i64 f]) (by simp [results, Try.results11, go_sem]) rfl ⟨lies.frame_up DB _, _, f, rfl, .inl ⟨HN.out, rfl, HF.out.2⟩⟩
set_option maxRecDepth 100000 in
set_option maxHeartbeats 4000000 in
theorem pick_yes (n : Nat) (sv : Value) (ts : List Int) (w : World) (hI : law.Ints w.heap.size w sv ts) (hm : ts.length ≤ 1000000) (htop : Tops ts) (h : OkD n ts) (h0 : 0 < n) (hn : n ≤ 4) (hl : ts.length = n * n) :
    Calls Try.prog 11 #[.agg #[.int .i64 n, sv]] w (Pk n ts w) := by
  have hsq := sq_le hn
  have D0 := lies.made w 27 #[.int .i64 n, sv]
  have DB := bound.up1 w (.cells #[.int .i64 n, sv] 27)
  have C := Lib.hid (tight.close_g n sv ts _ ((hI.below DB).mono DB.size) hm htop)
  have hus : (clT n ts).length = n * n := (clT_length h).trans hl
  have hfits := fun (s : Int) (hs : s = 1 ∨ s = -1) (i j k : Nat) hi hj hk hkn => clo_fit h0 hn hl htop h (s := s) hs (i := i) (j := j) (k := k) hi hj hk hkn
  have hnears := fun (u : Nat) (hu : u < n) => clo_near h0 hn hl htop h hu
  obtain ⟨i0, hi, hz0, hz1, hz2⟩ := info_parts info_r
  have HIN := Lib.hid (And.intro hi (And.intro hz0 (And.intro hz1 hz2)))
  obtain ⟨ad, cap, rfl⟩ := ints_len hI
  have HOK := Lib.hid h
  have HUS := Lib.hid hus
  have HFI := Lib.hid hfits
  have HNE := Lib.hid hnears
  have HL := Lib.hid hl
  clear hI htop h hus hfits hnears hi hz0 hz1 hz2 hl
  go_enter Try.func11, Try.ntmps11
  go_wp2_with fail
  refine C.out.mono ?_
  rintro e w1 ⟨hB, na, aa, la, ca, us, f, rfl, hA, hK⟩
  have hA' : na = (n : Int) ∧ us = clT n ts ∧ f = 0 := by
    rcases hA with ⟨k, _⟩ | ⟨_, h1, h2, h3⟩
    · exact (k HOK.out).elim
    · exact ⟨h1, h2, h3⟩
  clear hA
  obtain ⟨e1, e2, e3⟩ := hA'
  subst e1
  subst e3
  subst e2
  obtain ⟨cg, hcg, rfl, rfl, hG⟩ : ∃ g, w.heap.size ≤ g ∧ aa = some ⟨g, 0, none⟩ ∧ la = n * n ∧ lies.Lies w1 g 29 (cellsOf (clT n ts)) := by
    rcases hK with ⟨_, _, _, k⟩ | ⟨g, h1, h2, h3, h4⟩
    · have := HUS.out; rw [k] at this; have : 0 < n * n := Nat.mul_pos h0 h0; simp at *; omega
    · exact ⟨g, by simp at h1; omega, h2, h3.trans HUS.out, h4⟩
  replace DB := later DB hB
  clear hB hK D0 C
  go_wp2_with fail
  have E0 := lies.made w1 27 #[.int .i64 n, .slice (some ⟨cg, 0, none⟩) (n * n) ca]
  have EG := lies.on_alloc hG (.cells #[.int .i64 n, .slice (some ⟨cg, 0, none⟩) (n * n) ca] 27)
  have EB := lies.frame_up DB (.cells #[.int .i64 n, .slice (some ⟨cg, 0, none⟩) (n * n) ca] 27)
  clear hG DB
  generalize w1.heap.size = CB at E0 ⊢
  generalize w1.alloc (.cells #[.int .i64 n, .slice (some ⟨cg, 0, none⟩) (n * n) ca] 27) = w2 at E0 EG EB ⊢
  refine (whole_is 0 w2).mono ?_
  rintro e w3 ⟨rfl, hB⟩
  replace E0 := lies.on_call E0 hB
  replace EG := lies.on_call EG hB
  replace EB := later EB hB
  clear hB
  obtain ⟨x0, x1, x2, x3, x4⟩ := lies.two E0
  go_wp2_with fail
  clear x0 x1 x2 x3 x4
  have hbase : w.heap.size ≤ w3.heap.size := EB.size
  have hcb := lies.lt E0
  have hcgb := lies.lt EG
  have P0 : Pi n CB cg ca w3.heap.size (clT n ts) (wts n (clT n ts)) 0 (.slice (some ⟨w3.heap.size, 0, none⟩) 1 1) w (w3.alloc (.cells #[.int .i64 0, .int .i64 1] 36)) :=
    ⟨lies.on_alloc E0 _, lies.on_alloc EG _, lies.frame_up EB _, by
      have := World.ownsRow_lit (base := w3.heap.size) (e := 36) (size := 2) w3 #[.int .i64 0, .int .i64 1] 1 (Nat.le_refl _) (by decide) rfl
      have e : flat (rsOf (wts n (clT n ts)) 0) = [.int .i64 0, .int .i64 1] := by
        show [Value.int .i64 (p8 0), Value.int .i64 (q8 0)] = _
        rw [eight_zero.1, eight_zero.2]
      rw [e]
      exact this, by simp⟩
  clear E0 EG EB
  generalize hbs : w3.heap.size = base at P0 hcb hcgb hbase ⊢
  generalize w3.alloc (.cells #[.int .i64 0, .int .i64 1] 36) = w4 at P0 ⊢
  clear hbs
  go_loopw [6, 7] (fun tv iv wr => ∃ k : Nat, k + 1 ≤ n ∧ iv = .int .i64 ((k + 1 : Nat) : Int) ∧ Pi n CB cg ca base (clT n ts) (wts n (clT n ts)) k tv w wr) (fun tv iv _ => n - (intOf iv).toNat)
  case atStart => exact ⟨0, by omega, rfl, P0⟩
  case round =>
    clear P0
    obtain ⟨k, hk, rfl, hA⟩ := hrel
    obtain ⟨g, gcap, rfl⟩ : ∃ g gcap, u6 = .slice (some ⟨g, 0, none⟩) (k + 1) gcap := by
      rcases Go.Joins.ownsRow_forms hA.2.2.2.1 with ⟨_, h⟩ | ⟨g, gcap, h⟩
      · omega
      · exact ⟨g, gcap, h⟩
    have hgl := (hA.2.2.2.1.lt g rfl).2
    by_cases hkn : k + 1 < n
    · have hup := px_succ (wts n (clT n ts)) k
      have hlo : ∀ j, j < k + 1 → Fit (-1) (px (wts n (clT n ts)) j) ((clT n ts)[j * n + (k + 1)]?.getD 0) := fun j hj => HFI.out (-1) (.inr rfl) j (k + 1) j (by omega) hkn (by omega) (by omega)
      have hhi : ∀ j, j < k + 1 → Fit 1 (px (wts n (clT n ts)) j) ((clT n ts)[(k + 1) * n + j]?.getD 0) := fun j hj => HFI.out 1 (.inl rfl) (k + 1) j j hkn (by omega) (by omega) (by omega)
      have elo : endC (-1) (px (wts n (clT n ts))) (fun j => cod ((clT n ts)[j * n + (k + 1)]?.getD 0)) (k + 1) = lowE (wts n (clT n ts)) (k + 1) := endC_same (k + 1) (fun _ _ => rfl) (fun j hj => (wts_in (by omega) hkn).symm)
      have ehi : endC 1 (px (wts n (clT n ts))) (fun j => cod ((clT n ts)[(k + 1) * n + j]?.getD 0)) (k + 1) = highE (wts n (clT n ts)) (k + 1) := endC_same (k + 1) (fun _ _ => rfl) (fun j hj => (wts_in hkn (by omega)).symm)
      have HE := Lib.hid (ends_is n (k + 1) cg 0 ca g 0 gcap (px (wts n (clT n ts))) (clT n ts) (rsOf (wts n (clT n ts)) k) wr hn hkn (row_of hA.2.1) (lies.lt hA.2.1) HUS.out (own_rowR hA.2.2.2.1) hgl (rsOf_length _ _) (fun j hj => rsOf_at _ (by omega)) hlo hhi)
      have nlo := endC_near (s := -1) (.inr rfl) (X := px (wts n (clT n ts))) (t := fun j => (clT n ts)[j * n + (k + 1)]?.getD 0) (k := k + 1) (fun j hj => (hlo j hj).imp id fun h => h.2.2) (k + 1) (Nat.le_refl _)
      have nhi := endC_near (s := 1) (.inl rfl) (X := px (wts n (clT n ts))) (t := fun j => (clT n ts)[(k + 1) * n + j]?.getD 0) (k := k + 1) (fun j hj => (hhi j hj).imp id fun h => h.2.2) (k + 1) (Nat.le_refl _)
      rw [elo] at nlo
      rw [ehi] at nhi
      have HE' := HE.out
      rw [elo, ehi] at HE'
      have hev : ∀ j, j < k + 1 → px (wts n (clT n ts)) j % (2 * 1) = 0 := fun j hj => px_even _ (by omega)
      have HB : ∀ W, Calls Try.prog 30 #[endV (-1) (lowE (wts n (clT n ts)) (k + 1)), endV 1 (highE (wts n (clT n ts)) (k + 1))] W fun e w' => e = .returned (.agg #[.int .i64 (p8 (px (wts n (clT n ts)) (k + 1))), .int .i64 (q8 (px (wts n (clT n ts)) (k + 1)))]) ∧ Below W.heap.size W w' := fun W => by
        have hn' := HNE.out (k + 1) hkn
        rw [hup] at hn' ⊢
        exact between_is nlo nhi hn' (fun l e hl he => ⟨end_dv (q := 1) (by decide) (by decide) hev hl, end_dv (q := 1) (by decide) (by decide) hev he⟩) W
      obtain ⟨ea, ed, eb, ec, _, eV⟩ := endL_four (-1) (lowE (wts n (clT n ts)) (k + 1))
      obtain ⟨ga, gd, gb, gc, _, gV⟩ := endL_four 1 (highE (wts n (clT n ts)) (k + 1))
      rw [eV, gV] at HE'
      simp only [eV, gV] at HB
      have HCE := Lib.hid HE'
      have HCB := Lib.hid HB
      have HPU := Lib.hid (fun (v' : Value) (W W' : World) (o : Obj) (h : Pi n CB cg ca base (clT n ts) (wts n (clT n ts)) k (.slice (some ⟨g, 0, none⟩) (k + 1) gcap) w W) h1 h2 => h.push (v' := v') (W' := W') (o := o) hbase hcb hcgb h1 h2)
      clear hup hlo hhi elo ehi HE nlo nhi HE' hev HB eV gV
      generalize p8 (px (wts n (clT n ts)) (k + 1)) = P at HCB HPU
      generalize q8 (px (wts n (clT n ts)) (k + 1)) = Q at HCB HPU
      obtain ⟨x0, x1, x2, x3, x4⟩ := lies.two hA.1
      go_wp2_with fail
      refine HCE.out.mono ?_
      rintro e w5 ⟨rfl, hB⟩
      have A5 := (hA.below hB).below (bound.up2 _ (.cells #[.bool ea, .int .i64 eb, .int .i64 ec, .bool ed] 57) (.cells #[.bool ga, .int .i64 gb, .int .i64 gc, .bool gd] 57))
      clear hB hA x0 x1 x2 x3 x4 HCE
      go_wp2_with fail
      generalize (w5.alloc (.cells #[.bool ea, .int .i64 eb, .int .i64 ec, .bool ed] 57)).alloc (.cells #[.bool ga, .int .i64 gb, .int .i64 gc, .bool gd] 57) = w6 at A5 ⊢
      refine (HCB.out w6).mono ?_
      rintro e w7 ⟨rfl, hB⟩
      have A7 := A5.below hB
      have O7 := A7.2.2.2.1.alloc (.cells #[.int .i64 P, .int .i64 Q] 36)
      have M7 := lies.made w7 36 #[.int .i64 P, .int .i64 Q]
      have hsb := A7.2.2.2.2
      clear hB A5 HCB
      go_wp2_with (at_builtin; refine wpList_append_own _ rfl (.tmp 33) (.tmp 37) 30 rfl base 36 i0 (.agg #[.int .i64 (0), .int .i64 (0)]) 2 16 Try.underlying30 HIN.out.1 HIN.out.2.1 HIN.out.2.2.1 HIN.out.2.2.2 rfl (by decide) _ _ _ rfl O7 ⟨w7.heap.size, 0, none⟩ 1 1 [.int .i64 P, .int .i64 Q] rfl rfl (two_new M7) (by simp [Value.oneCell']) (by unfold maxLen; omega) (by omega) (by simp; omega) ?_; intro v' w8 hown' hgrow _; have A8 := HPU.out v' w7 w8 _ A7 hown' hgrow)
      clear A7 O7 M7 hown' hgrow
      go_roundw
      case rel => exact ⟨k + 1, by omega, by go_num, A8⟩
      case measure => simp [intOf]; omega
    · have hnk : (n : Int) = ((k + 1 : Nat) : Int) := by omega
      have hnk2 : ¬ (((k + 1 : Nat) : Int) < (n : Int)) := by omega
      obtain ⟨x0, x1, x2, x3, x4⟩ := lies.two hA.1
      clear HFI HNE
      have HC := Lib.hid (own_cap hA.2.2.2.1)
      have hr : RowR wr g 2 (pks n ts) := pks_row (by have e : n - 1 = k := by omega
                                                      rw [e]; exact own_rowR hA.2.2.2.1)
      have HRR := Lib.hid hr
      have hKB := hA.2.2.1
      have e2 : k + 1 = n := by omega
      clear hA hr
      go_wp2_with fail
      · have hc := HC.out
        rename_i hg1
        have hn1 : n = 1 := by omega
        exact bodyPost_ret (v := .tuple #[.slice (some ⟨g, 0, none⟩) (n - 1) 0, .int .i64 0]) (by simp [results, Try.results11, go_sem]) rfl ⟨hKB, _, 0, rfl, .inr ⟨e2 ▸ HOK.out, rfl, n, by omega, .inl ⟨⟨some ⟨g, 0, none⟩, 0, by rw [show n - 1 = 0 by omega], fun _ => rfl⟩, List.eq_nil_of_length_eq_zero (by rw [pks_length]; omega)⟩⟩⟩
      · exact bodyPost_ret (v := .tuple #[.slice (some ⟨g, 2, none⟩) (n - 1) (gcap - 1), .int .i64 0]) (by simp [results, Try.results11, go_sem]) rfl ⟨hKB, _, 0, rfl, .inr ⟨e2 ▸ HOK.out, rfl, n, by omega, .inr ⟨g, 2, gcap - 1, by rw [pks_length], hgl, HRR.out⟩⟩⟩

theorem pick_any (n : Int) (sv : Value) (ts : List Int) (w : World) (hI : law.Ints w.heap.size w sv ts) (hm : ts.length ≤ 1000000) (htop : Tops ts) :
    Calls Try.prog 11 #[.agg #[.int .i64 n, sv]] w (Pk n ts w) := by
  by_cases h : OkD n ts
  · obtain ⟨m, rfl, h0, hn, hl⟩ := may_nat h.1
    exact pick_yes m sv ts w hI hm htop h h0 hn hl
  · exact pick_no n sv ts w hI hm htop h
end Go.Proofs.Ytnbpcgkdnkihdaa.incl
