/-
  Windows and spans of lesser zones, wider windows, windows that follow one another: what the laws of win ask; each theorem names its conditions.
-/
import Derived.Test.YtcaoooddmmhieaaDoorWinL
import Derived.Test.YtcaoooddmmhieaaDoorWinC
namespace Go.Proofs.YtcaoooddmmhieaaDoor.wlaw
open Go.Joins Go.ChangeShapes Go.WideShapes Go.ChangeAt Go.RowKit way num rat dbm Go.Proofs.YtcaoooddmmhieaaDoor.tight Go.Proofs.YtcaoooddmmhieaaDoor.tkept Go.Proofs.YtcaoooddmmhieaaDoor.incl Go.Proofs.YtcaoooddmmhieaaDoor.plaw Go.Proofs.YtcaoooddmmhieaaDoor.zopen Go.Proofs.YtcaoooddmmhieaaDoor.zone Go.Proofs.YtcaoooddmmhieaaDoor.win
open bound hiding up
open Go.Proofs.YtcaoooddmmhieaaDoor.comp (zw may_cl)
open proj (cl_cod)
set_option linter.unusedVariables false
set_option linter.unusedSimpArgs false

/-- is a time in a span? -/
theorem within_is (p q lo : Int) (ls : Bool) (hi : Int) (hs op : Bool) (w : World) (hp : -9223372036854775808 ≤ p ∧ p ≤ 9223372036854775807) (hm : MayR p q) (hs' : MayP (lo, ls, hi, hs, op)) :
    Calls Tryd.prog 21 #[.agg #[.int .i64 p, .int .i64 q], .agg #[.int .i64 lo, .bool ls, .int .i64 hi, .bool hs, .bool op]] w fun e w' => e = .returned (.bool (inS (lo, ls, hi, hs, op) p q)) ∧ Below w.heap.size w w' := by
  have hlo : In lo := hs'.1
  have mlo : num.May lo := in_may hlo
  have rlo : MayR lo 1 := whole_may mlo
  have blo : -9223372036854775808 ≤ lo ∧ lo ≤ 9223372036854775807 := by unfold In at hlo; omega
  obtain ⟨v1, v2⟩ := cmpV_is (a := lo) (b := 1) (c := p) (d := q) ⟨rlo, hm⟩
  have OL : ∀ W, Calls Tryd.prog 24 #[.int .i64 lo, .int .i64 1] W fun e w' => e = .returned (.tuple #[.agg #[.int .i64 lo, .int .i64 1], .int .i64 0]) ∧ Below W.heap.size W w' := fun W => by
    have := of3_any lo 1 W blo.1 blo.2 (by decide)
    rwa [(of_whole mlo).1, (of_whole mlo).2.1, (of_whole mlo).2.2] at this
  have CL : ∀ W, Calls Tryd.prog 45 #[.agg #[.int .i64 lo, .int .i64 1], .agg #[.int .i64 p, .int .i64 q]] W fun e w' => e = .returned (.tuple #[.int .i64 (cmp0 (lo * q) (p * 1)), .int .i64 0]) ∧ Below W.heap.size W w' := fun W => by
    have := cmp3_any lo 1 p q W blo.1 blo.2 hp.1 hp.2
    rwa [v1, v2] at this
  have HI : op = false → In hi := hi_in (s := (lo, ls, hi, hs, op)) hs'
  have bhi : op = false → -9223372036854775808 ≤ hi ∧ hi ≤ 9223372036854775807 := fun h => by have := HI h; unfold In at this; omega
  have OH : op = false → ∀ W, Calls Tryd.prog 24 #[.int .i64 hi, .int .i64 1] W fun e w' => e = .returned (.tuple #[.agg #[.int .i64 hi, .int .i64 1], .int .i64 0]) ∧ Below W.heap.size W w' := fun h W => by
    have := of3_any hi 1 W (bhi h).1 (bhi h).2 (by decide)
    rwa [(of_whole (in_may (HI h))).1, (of_whole (in_may (HI h))).2.1, (of_whole (in_may (HI h))).2.2] at this
  have CH : op = false → ∀ W, Calls Tryd.prog 45 #[.agg #[.int .i64 p, .int .i64 q], .agg #[.int .i64 hi, .int .i64 1]] W fun e w' => e = .returned (.tuple #[.int .i64 (cmp0 (p * 1) (hi * q)), .int .i64 0]) ∧ Below W.heap.size W w' := fun h W => by
    obtain ⟨v1, v2⟩ := cmpV_is (a := p) (b := q) (c := hi) (d := 1) ⟨hm, whole_may (in_may (HI h))⟩
    have := cmp3_any p q hi 1 W hp.1 hp.2 (bhi h).1 (bhi h).2
    rwa [v1, v2] at this
  refine within_k p q lo hi (cmp0 (lo * q) (p * 1)) (cmp0 (p * 1) (hi * q)) ls hs op (inl lo ls p q) _ w (Lib.hid OL) (Lib.hid CL) (Lib.hid OH) (Lib.hid CH) ?_ ?_
  · rw [Int.mul_one]
    unfold inl
    rcases cmp0_cases (lo * q) p with ⟨h, e⟩ | ⟨h, e⟩ | ⟨h, e⟩ <;> rw [e] <;> cases ls
    · exact .inr (.inr (.inr ⟨rfl, decide_eq_false (by omega)⟩))
    · exact .inr (.inr (.inr ⟨rfl, decide_eq_false (by omega)⟩))
    · exact .inl ⟨rfl, decide_eq_true (by omega)⟩
    · exact .inl ⟨rfl, decide_eq_true (by omega)⟩
    · exact .inr (.inl ⟨rfl, rfl, decide_eq_true (by omega)⟩)
    · exact .inr (.inr (.inl ⟨rfl, rfl, decide_eq_false (by omega)⟩))
  · show _ ∨ _ ∨ _ ∨ _ ∨ _ ∨ _
    have e0 : inS (lo, ls, hi, hs, op) p q = (inl lo ls p q && (op || inh hi hs p q)) := rfl
    rw [e0]
    cases op with
    | true => exact .inl ⟨rfl, by simp⟩
    | false =>
      cases inl lo ls p q with
      | false => exact .inr (.inl ⟨rfl, rfl, rfl⟩)
      | true =>
        right; right
        rw [Int.mul_one, Bool.false_or, Bool.true_and]
        unfold inh
        rcases cmp0_cases p (hi * q) with ⟨h, e⟩ | ⟨h, e⟩ | ⟨h, e⟩ <;> rw [e] <;> cases hs
        · exact .inr (.inr (.inr ⟨rfl, rfl, rfl, decide_eq_false (by omega)⟩))
        · exact .inr (.inr (.inr ⟨rfl, rfl, rfl, decide_eq_false (by omega)⟩))
        · exact .inl ⟨rfl, rfl, rfl, decide_eq_true (by omega)⟩
        · exact .inl ⟨rfl, rfl, rfl, decide_eq_true (by omega)⟩
        · exact .inr (.inl ⟨rfl, rfl, rfl, rfl, decide_eq_true (by omega)⟩)
        · exact .inr (.inr (.inl ⟨rfl, rfl, rfl, rfl, decide_eq_false (by omega)⟩))

/-! lesser zones, wider cuts -/
theorem cut_mono {l z w v : List Int} (tl : Tops l) (tz : Tops z) (hz : MayD 3 (fullT z)) (hv : MayD 3 (fullT v)) (h1 : ∀ p, p < 9 → (fullT l)[p]?.getD 0 ≤ (fullT z)[p]?.getD 0) (h2 : ∀ p, p < 9 → (fullT w)[p]?.getD 0 ≤ (fullT v)[p]?.getD 0) (h : OkD 3 (lesT (fullT l) (fullT w))) :
    OkD 3 (lesT (fullT z) (fullT v)) ∧ ∀ p, p < 9 → (clT 3 (lesT (fullT l) (fullT w)))[p]?.getD 0 ≤ (clT 3 (lesT (fullT z) (fullT v)))[p]?.getD 0 := by
  obtain ⟨a, b⟩ := cl_less (n := 3) h (lesT_may hz hv) (lesT_tops (full_tops tz) _) (lesT_tops (full_tops tl) _) fun i j => by
    show (lesT (fullT l) (fullT w))[i * 3 + j]?.getD 0 ≤ (lesT (fullT z) (fullT v))[i * 3 + j]?.getD 0
    by_cases hp : i * 3 + j < 9
    · rw [lesT_at _ _ (show i * 3 + j < (fullT l).length from hp), lesT_at _ _ (show i * 3 + j < (fullT z).length from hp)]
      have a := h1 _ hp
      have b := h2 _ hp
      unfold lsr
      repeat' split <;> omega
    · rw [List.getElem?_eq_none (by rw [lesT_length]; exact Nat.not_lt.1 hp), List.getElem?_eq_none (by rw [lesT_length]; exact Nat.not_lt.1 hp)]
      exact Int.le_refl _
  exact ⟨a, fun p hp => b p (by rw [lesT_length]; exact hp)⟩
theorem cut_facts {z w x : List Int} (h : CutR z w x 0) : OkD 3 (lesT (fullT z) (fullT w)) ∧ MayD 3 (clT 3 (lesT (fullT z) (fullT w))) ∧ x = shortT (clT 3 (lesT (fullT z) (fullT w))) := by
  rcases h with ⟨_, _, e⟩ | ⟨_, _, _, e⟩ | ⟨a, b, c, _⟩
  · cases e
  · cases e
  · exact ⟨a, b, c⟩
theorem cut_full {z w x : List Int} (tz : Tops z) (h : CutR z w x 0) : fullT x = clT 3 (lesT (fullT z) (fullT w)) ∧ MayZ x ∧ Tops x := by
  obtain ⟨a, b, c⟩ := cut_facts h
  obtain ⟨e1, e2⟩ := of_may (lesT_length _ _) (lesT_tops (full_tops tz) _) a b
  rw [c]
  exact ⟨e1, e2, short_tops (clT_tops (lesT_tops (full_tops tz) _))⟩
/-- of a zone that lies in another one, cut by what lies in another cut. -/
theorem cut_in {l z w v x y : List Int} {g : Int} (tl : Tops l) (tz : Tops z) (hz : MayD 3 (fullT z)) (hv : MayD 3 (fullT v)) (h1 : ∀ p, p < 9 → (fullT l)[p]?.getD 0 ≤ (fullT z)[p]?.getD 0) (h2 : ∀ p, p < 9 → (fullT w)[p]?.getD 0 ≤ (fullT v)[p]?.getD 0) (hx : CutR l w x 0) (hy : CutR z v y g) :
    g ≠ 6 ∧ (g = 0 → MayZ x ∧ MayZ y ∧ inV 3 (fullT x) (fullT y)) := by
  obtain ⟨o, _, _⟩ := cut_facts hx
  obtain ⟨k1, k2⟩ := cut_mono tl tz hz hv h1 h2 o
  refine ⟨fun e => ?_, fun e => ?_⟩
  · subst e
    rcases hy with ⟨n, _⟩ | ⟨_, _, _, e⟩ | ⟨_, _, _, e⟩
    · exact n k1
    · cases e
    · cases e
  · subst e
    obtain ⟨e1, m1, _⟩ := cut_full tl hx
    obtain ⟨e2, m2, _⟩ := cut_full tz hy
    refine ⟨m1, m2, (in_le m1).2 fun p hp => ?_⟩
    rw [e1, e2]
    exact k2 p hp
theorem late_le {f t f' t' : Int} (hf : f' ≤ f) (ht : t ≤ t') : ∀ p, p < 9 → (fullT (lateZ (winS f t)))[p]?.getD 0 ≤ (fullT (lateZ (winS f' t')))[p]?.getD 0 := fun p hp => by
  have eh : ∀ a b : Int, hiS (winS a b) = 2 * b + 1 := fun a b => rfl
  have el : ∀ a b : Int, loS (winS a b) = 2 * -a := fun a b => rfl
  rcases (by omega : p = 0 ∨ p = 1 ∨ p = 2 ∨ p = 3 ∨ p = 4 ∨ p = 5 ∨ p = 6 ∨ p = 7 ∨ p = 8) with rfl | rfl | rfl | rfl | rfl | rfl | rfl | rfl | rfl
  · exact Int.le_refl _
  · exact Int.le_refl _
  · show loS (winS f t) ≤ loS (winS f' t'); rw [el, el]; omega
  · exact Int.le_refl _
  · exact Int.le_refl _
  · exact Int.le_refl _
  · show hiS (winS f t) ≤ hiS (winS f' t'); rw [eh, eh]; omega
  · exact Int.le_refl _
  · exact Int.le_refl _
theorem own_le (z : List Int) : ∀ p, p < 9 → (fullT z)[p]?.getD 0 ≤ (fullT z)[p]?.getD 0 := fun _ _ => Int.le_refl _

/-! a wider window -/
theorem beg_zw {z : List Int} {i j : Nat} (hi : i < 3) (hj : j < 3) : beg 3 (fullT z) i j = zw z i j := by
  show wts 3 (lows 3 (fullT z) 3) i j = _
  rw [wts_in hi hj, beg_at (n := 3) rfl (by decide) hi hj]
  by_cases h : i = j
  · subst h
    rw [if_pos rfl]
    rcases (by omega : i = 0 ∨ i = 1 ∨ i = 2) with rfl | rfl | rfl <;> rfl
  · rw [if_neg h]; rfl
theorem both_win (z : List Int) (s : Sp) (hd : ∀ i, i < 3 → beg 3 (fullT z) i i = way.one) : both (beg 3 (fullT z)) (beg 3 (fullT (lateZ s))) = win2 (beg 3 (fullT z)) (cod (hiS s)) (cod (loS s)) := by
  have mnn : ∀ x : B, mn x none = x := fun x => mn_eq_left (le_none _)
  have mno : mn way.one way.one = way.one := mn_eq_left (le_refl _)
  funext i j
  show mn (beg 3 (fullT z) i j) (beg 3 (fullT (lateZ s)) i j) = win2 (beg 3 (fullT z)) (cod (hiS s)) (cod (loS s)) i j
  by_cases h : i < 3 ∧ j < 3
  · rw [beg_zw (z := lateZ s) h.1 h.2]
    rcases (by omega : i = 0 ∨ i = 1 ∨ i = 2) with rfl | rfl | rfl <;> rcases (by omega : j = 0 ∨ j = 1 ∨ j = 2) with rfl | rfl | rfl
    · show mn (beg 3 (fullT z) 0 0) way.one = beg 3 (fullT z) 0 0; rw [hd 0 (by decide)]; exact mno
    · show mn (beg 3 (fullT z) 0 1) none = beg 3 (fullT z) 0 1; exact mnn _
    · rfl
    · show mn (beg 3 (fullT z) 1 0) none = beg 3 (fullT z) 1 0; exact mnn _
    · show mn (beg 3 (fullT z) 1 1) way.one = beg 3 (fullT z) 1 1; rw [hd 1 (by decide)]; exact mno
    · show mn (beg 3 (fullT z) 1 2) none = beg 3 (fullT z) 1 2; exact mnn _
    · rfl
    · show mn (beg 3 (fullT z) 2 1) none = beg 3 (fullT z) 2 1; exact mnn _
    · show mn (beg 3 (fullT z) 2 2) way.one = beg 3 (fullT z) 2 2; rw [hd 2 (by decide)]; exact mno
  · have e1 : ∀ y : List Int, beg 3 (fullT y) i j = none := fun y => by
      by_cases hi : i < 3
      · exact wts_out2 (fun k => h ⟨hi, k⟩)
      · exact wts_out hi
    rw [e1, e1]
    unfold win2 put
    rw [if_neg (fun k => h ⟨by omega, by omega⟩), if_neg (fun k => h ⟨by omega, by omega⟩), e1]
    exact mnn _
theorem win_wide {z a b : List Int} {f m g : Int} (tz : Tops z) (hz : MayZ z) (hf : In f) (hm : In m) (hg : In g) (h1 : f < m) (h2 : m < g) (ha : CutR z (lateZ (winS f m)) a 0) (hb : CutR z (lateZ (winS m g)) b 0) :
    MayD 3 (clT 3 (lesT (fullT z) (fullT (lateZ (winS f g))))) := by
  have pa := win_may hf hm (Int.le_of_lt h1)
  have pb := win_may hm hg (Int.le_of_lt h2)
  have pc := win_may hf hg (by omega)
  obtain ⟨oa, ma, _⟩ := cut_facts ha
  obtain ⟨ob, mb, _⟩ := cut_facts hb
  obtain ⟨oc, lc⟩ := cut_mono tz tz hz.may (late_may pc) (own_le z) (late_le (f := f) (t := m) (f' := f) (t' := g) (Int.le_refl _) (Int.le_of_lt h2)) oa
  have tt : ∀ s : Sp, Tops (lesT (fullT z) (fullT (lateZ s))) := fun s => lesT_tops (full_tops tz) _
  have lt9 : ∀ s : Sp, (lesT (fullT z) (fullT (lateZ s))).length = 9 := fun s => lesT_length _ _
  have lcl : ∀ {s : Sp}, OkD 3 (lesT (fullT z) (fullT (lateZ s))) → (clT 3 (lesT (fullT z) (fullT (lateZ s)))).length = 9 := fun o => (clT_length o).trans (lt9 _)
  have hcl := may_cl tz hz
  have eD : ∀ i j, i < 3 → j < 3 → beg 3 (fullT z) i j = zw z i j := fun i j hi hj => beg_zw hi hj
  have gd : way.Good (beg 3 (fullT z)) 3 := (okD_good (n := 3) (by decide) (by decide) rfl (full_tops tz) hz.may).1 hz.1
  have eF : ∀ i j, F (beg 3 (fullT z)) 3 i j = beg 3 (fullT z) i j := fun i j => by
    by_cases h : i < 3 ∧ j < 3
    · rw [← cl_cod (n := 3) (by decide) (by decide) rfl (full_tops tz) hz.1 h.1 h.2, eD i j h.1 h.2, show clT ((3 : Nat) : Int) (fullT z) = fullT z from hz.2]; rfl
    · by_cases hi : i < 3
      · exact (F_none2 (d := beg 3 (fullT z)) (j := j) (fun i => wts_out2 (us := lows 3 (fullT z) 3) (fun k => h ⟨hi, k⟩)) 3 i).trans (wts_out2 (us := lows 3 (fullT z) 3) (fun k => h ⟨hi, k⟩)).symm
      · exact (F_none (d := beg 3 (fullT z)) (i := i) (fun j => wts_out (us := lows 3 (fullT z) 3) hi) 3 j).trans (wts_out (us := lows 3 (fullT z) 3) hi).symm
  have t : Tri (beg 3 (fullT z)) 3 := fun x hx i j => by
    have := good_tri gd x hx i j
    rwa [eF, eF, eF] at this
  have p : Pos (beg 3 (fullT z)) := fun i => by
    have := gd 3 (Nat.le_refl _) i
    rwa [eF] at this
  have hd : ∀ i, i < 3 → beg 3 (fullT z) i i = way.one := fun i hi => by rw [eD i i hi hi]; exact hcl.2 i hi
  have o : ∀ i, ¬ i < 3 → ∀ j, beg 3 (fullT z) i j = none := fun i hi j => wts_out hi
  have gw : ∀ {s : Sp}, MayP s → OkD 3 (lesT (fullT z) (fullT (lateZ s))) → way.Good (win2 (beg 3 (fullT z)) (cod (hiS s)) (cod (loS s))) 3 := fun {s} hs ho => by
    have := (okD_good (n := 3) (by decide) (by decide) (lt9 s) (tt s) (lesT_may hz.may (late_may hs))).1 ho
    rwa [beg_les (n := 3) (by decide) (by decide) rfl rfl (full_tops tz) (full_tops (late_tops hs)), both_win z s hd] at this
  have ew : ∀ {s : Sp}, MayP s → OkD 3 (lesT (fullT z) (fullT (lateZ s))) → ∀ i j, i < 3 → j < 3 → cod (tat (clT 3 (lesT (fullT z) (fullT (lateZ s)))) 3 i j) = F (win2 (beg 3 (fullT z)) (cod (hiS s)) (cod (loS s))) 3 i j := fun {s} hs ho i j hi hj => by
    have := cl_cod (n := 3) (by decide) (by decide) (lt9 s) (tt s) ho hi hj
    rwa [beg_les (n := 3) (by decide) (by decide) rfl rfl (full_tops tz) (full_tops (late_tops hs)), both_win z s hd] at this
  refine ⟨by decide, by decide, by rw [lcl oc]; decide, fun q hq => ?_⟩
  have hq : q < 9 := by rw [lcl oc] at hq; exact hq
  have fa := ma.2.2.2 q (by rw [lcl oa]; exact hq)
  have fb := mb.2.2.2 q (by rw [lcl ob]; exact hq)
  have le1 := lc q hq
  have le2 : (clT 3 (lesT (fullT z) (fullT (lateZ (winS f g)))))[q]?.getD 0 ≤ (fullT z)[q]?.getD 0 := by
    have k := closed_le (n := 3) (by decide) (by decide) (lt9 (winS f g)) (tt _) oc.1.2.2.2 (fun k hk => oc.2.2 k (by simpa using hk)) (i := q / 3) (j := q % 3) (by omega) (by omega)
    rw [← show clT ((3 : Nat) : Int) (lesT (fullT z) (fullT (lateZ (winS f g)))) = tabs 3 (by decide) (lesT (fullT z) (fullT (lateZ (winS f g)))) 3 from clT_nat (m := 3) (by decide) _] at k
    unfold tat at k
    rw [show q / 3 * 3 + q % 3 = q by omega, lesT_at _ _ (by exact hq)] at k
    exact Int.le_trans k (lsr_le _ _).1
  have fz : Fine ((fullT z)[q]?.getD 0) := hz.may.2.2.2 q hq
  by_cases hn : (fullT z)[q]?.getD 0 = 9223372036854775807
  · have hi : q / 3 < 3 := by omega
    have hj : q % 3 < 3 := by omega
    have eq : q / 3 * 3 + q % 3 = q := by omega
    have hD : beg 3 (fullT z) (q / 3) (q % 3) = none := by
      rw [eD _ _ hi hj]
      unfold zw tat
      rw [eq, hn, cod_none]
    have e1 := ew pc oc (q / 3) (q % 3) hi hj
    have e2 := ew pa oa (q / 3) (q % 3) hi hj
    have e3 := ew pb ob (q / 3) (q % 3) hi hj
    unfold tat at e1 e2 e3
    rw [eq] at e1 e2 e3
    have key := win2_wide t p hd o (H := cod (hiS (winS f g))) (L := cod (loS (winS f g))) (H' := cod (hiS (winS f m))) (L' := cod (loS (winS m g))) (gw pc oc) (gw pa oa) (gw pb ob) (by
      rw [cod_some (show hiS (winS f m) ≠ 9223372036854775807 by show 2 * m + 1 ≠ _; unfold In at hm; omega)]
      exact fun k => by cases k) hD
    have ea : F (win2 (beg 3 (fullT z)) (cod (hiS (winS f m))) (cod (loS (winS f g)))) 3 (q / 3) (q % 3) = F (win2 (beg 3 (fullT z)) (cod (hiS (winS f m))) (cod (loS (winS f m)))) 3 (q / 3) (q % 3) := rfl
    have eb : F (win2 (beg 3 (fullT z)) (cod (hiS (winS f g))) (cod (loS (winS m g)))) 3 (q / 3) (q % 3) = F (win2 (beg 3 (fullT z)) (cod (hiS (winS m g))) (cod (loS (winS m g)))) 3 (q / 3) (q % 3) := rfl
    rw [ea, eb, ← e1, ← e2, ← e3] at key
    rcases key with k | k | k
    · rw [← cod_none] at k
      exact .inl (cod_inj k)
    · rw [cod_inj k]; exact fb
    · rw [cod_inj k]; exact fa
  · unfold Fine at fa fz ⊢
    omega
/-- windows that follow one another: nothing in both; what is in the one that they make. -/
theorem win_follow {z a b c : List Int} {f m g h : Int} (tz : Tops z) (hz : MayZ z) (hf : In f) (hm : In m) (hg : In g) (h1 : f < m) (h2 : m < g) (ha : CutR z (lateZ (winS f m)) a 0) (hb : CutR z (lateZ (winS m g)) b 0) (hc : CutR z (lateZ (winS f g)) c h) :
    ¬ OkD 3 (lesT (fullT a) (fullT b)) ∧ h = 0 ∧ MayZ c ∧ inV 3 (fullT a) (fullT c) ∧ inV 3 (fullT b) (fullT c) := by
  have pc := win_may hf hg (by omega)
  have w := win_wide tz hz hf hm hg h1 h2 ha hb
  obtain ⟨n1, k1⟩ := cut_in tz tz hz.may (late_may pc) (own_le z) (late_le (f := f) (t := m) (f' := f) (t' := g) (Int.le_refl _) (Int.le_of_lt h2)) ha hc
  obtain ⟨n2, k2⟩ := cut_in tz tz hz.may (late_may pc) (own_le z) (late_le (f := m) (t := g) (f' := f) (t' := g) (Int.le_of_lt h1) (Int.le_refl _)) hb hc
  have h0 : h = 0 := by
    rcases hc with ⟨_, _, e⟩ | ⟨_, n, _⟩ | ⟨_, _, _, e⟩
    · exact (n1 e).elim
    · exact (n w).elim
    · exact e
  refine ⟨fun o => ?_, h0, (k1 h0).2.1, (k1 h0).2.2, (k2 h0).2.2⟩
  obtain ⟨ea, _, ta⟩ := cut_full tz ha
  obtain ⟨eb, _, tb⟩ := cut_full tz hb
  obtain ⟨oa, _, _⟩ := cut_facts ha
  obtain ⟨ob, _, _⟩ := cut_facts hb
  have hp := pair_ok (n := 3) (i := 2) (j := 0) (by decide) (by decide) (lesT_length _ _) (lesT_tops (full_tops ta) _) o (by decide) (by decide)
  have l20 : tat (lesT (fullT a) (fullT b)) 3 2 0 ≤ 2 * m + 1 := by
    have e1 : tat (lesT (fullT a) (fullT b)) 3 2 0 = lsr ((fullT a)[6]?.getD 0) ((fullT b)[6]?.getD 0) := lesT_at (fullT a) (fullT b) (q := 6) (by rw [full_length]; decide)
    rw [e1]
    refine Int.le_trans (lsr_le _ _).1 ?_
    rw [ea]
    have k := closed_le (n := 3) (by decide) (by decide) (lesT_length _ _) (lesT_tops (full_tops tz) _) oa.1.2.2.2 (fun k hk => oa.2.2 k (by simpa using hk)) (i := 2) (j := 0) (by decide) (by decide)
    rw [← show clT ((3 : Nat) : Int) (lesT (fullT z) (fullT (lateZ (winS f m)))) = tabs 3 (by decide) (lesT (fullT z) (fullT (lateZ (winS f m)))) 3 from clT_nat (m := 3) (by decide) _] at k
    refine Int.le_trans k ?_
    have e2 : tat (lesT (fullT z) (fullT (lateZ (winS f m)))) 3 2 0 = lsr ((fullT z)[6]?.getD 0) (2 * m + 1) := lesT_at (fullT z) (fullT (lateZ (winS f m))) (q := 6) (by rw [full_length]; decide)
    rw [e2]
    exact (lsr_le _ _).2
  have l02 : tat (lesT (fullT a) (fullT b)) 3 0 2 ≤ 2 * -m := by
    have e1 : tat (lesT (fullT a) (fullT b)) 3 0 2 = lsr ((fullT a)[2]?.getD 0) ((fullT b)[2]?.getD 0) := lesT_at (fullT a) (fullT b) (q := 2) (by rw [full_length]; decide)
    rw [e1]
    refine Int.le_trans (lsr_le _ _).2 ?_
    rw [eb]
    have k := closed_le (n := 3) (by decide) (by decide) (lesT_length _ _) (lesT_tops (full_tops tz) _) ob.1.2.2.2 (fun k hk => ob.2.2 k (by simpa using hk)) (i := 0) (j := 2) (by decide) (by decide)
    rw [← show clT ((3 : Nat) : Int) (lesT (fullT z) (fullT (lateZ (winS m g)))) = tabs 3 (by decide) (lesT (fullT z) (fullT (lateZ (winS m g)))) 3 from clT_nat (m := 3) (by decide) _] at k
    refine Int.le_trans k ?_
    have e2 : tat (lesT (fullT z) (fullT (lateZ (winS m g)))) 3 0 2 = lsr ((fullT z)[2]?.getD 0) (2 * -m) := lesT_at (fullT z) (fullT (lateZ (winS m g))) (q := 2) (by rw [full_length]; decide)
    rw [e2]
    exact (lsr_le _ _).2
  unfold In at hm
  rw [cod_some (by omega), cod_some (by omega), ad_some] at hp
  have hp : (1 : Int) ≤ 2 * (tat (lesT (fullT a) (fullT b)) 3 2 0 / 2 + tat (lesT (fullT a) (fullT b)) 3 0 2 / 2) + min (tat (lesT (fullT a) (fullT b)) 3 2 0 % 2) (tat (lesT (fullT a) (fullT b)) 3 0 2 % 2) := hp
  omega
end Go.Proofs.YtcaoooddmmhieaaDoor.wlaw
