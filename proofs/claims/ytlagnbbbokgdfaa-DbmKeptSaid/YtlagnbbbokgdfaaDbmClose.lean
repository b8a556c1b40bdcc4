/-
  The closed one of a matrix (dbm.Close), as the tables that come of it one behind the other; the conditions: the bounds are ints, in memory.
-/
import Derived.Test.YtlagnbbbokgdfaaDbmTwin
import Derived.Test.YtlagnbbbokgdfaaDbmCheck
namespace Go.Proofs.Ytlagnbbbokgdfaa.dbm
open Go.ChangeShapes Go.WideShapes Go.ChangeAt Go.RowKit num
open bound hiding up
set_option linter.unusedVariables false

theorem close_bad (n : Int) (sv : Value) (ts : List Int) (w : World) (hI : law.Ints w.heap.size w sv ts) (hm : ts.length ≤ 1000000) (htop : Tops ts) (h : ¬ MayD n ts) :
    Calls Try.prog 11 #[.agg #[.int .i64 n, sv]] w fun e w' => e = .returned (.tuple #[.agg #[.int .i64 0, .slice none 0 0], .int .i64 8]) ∧ Below w.heap.size w w' := by
  have hI1 : law.Ints (((w.alloc (.cells #[.int .i64 n, sv] 27)).alloc (.cells #[.int .i64 0, .slice none 0 0] 27))).heap.size ((w.alloc (.cells #[.int .i64 n, sv] 27)).alloc (.cells #[.int .i64 0, .slice none 0 0] 27)) sv ts := (hI.below (((Below.refl _ w).alloc (Nat.le_refl _) _).alloc (by simp) _)).mono (by simp; omega)
  obtain ⟨a, cap, rfl⟩ := ints_len hI
  have D1 := lies.made_at (w.alloc (.cells #[.int .i64 n, .slice a ts.length cap] 27)) 27 #[.int .i64 0, .slice none 0 0] (w.heap.size + 1) (World.size_alloc _ _)
  have HI := Lib.hid hI1
  have HT := Lib.hid htop
  have HM := Lib.hid h
  clear hI hI1 htop h
  go_enter Try.func11, Try.ntmps11
  go_wp2_with (go_at_call 18; refine (check_no n _ ts _ HI.out hm HT.out HM.out).mono ?_; rintro e w1 ⟨rfl, hB1⟩; have D2 := lies.on_call D1 hB1; obtain ⟨x0, x1, x2, x3, x4⟩ := lies.two D2)
  exact bodyPost_ret (v := .tuple #[.agg #[.int .i64 0, .slice none 0 0], .int .i64 8]) (by simp [results, Try.results11, go_sem, x0, x1]) rfl ⟨rfl, (((((Below.refl w.heap.size w).alloc (Nat.le_refl _) _).alloc (by simp) _).trans (hB1.mono (by simp; omega))).setCell (p := ⟨w.heap.size + 1, 0, none⟩) (by simp) _).setCell (p := ⟨w.heap.size + 1, 1, none⟩) (by simp) _⟩

/-- the table behind the first k bounds of clocks of themselves. -/
def lows (n : Nat) (ts : List Int) : Nat → List Int
  | 0 => ts
  | k + 1 => (lows n ts k).set (k * n + k) (lsr (tat (lows n ts k) n k k) 1)
/-- the table behind the first k clocks. -/
def tabs (n : Nat) (h : 0 < n) (ts : List Int) : Nat → List Int
  | 0 => lows n ts n
  | k + 1 => ovl n k (tabs n h ts k) (upto (nth n h) (n * n))
theorem lows_length (n : Nat) (ts : List Int) (k : Nat) : (lows n ts k).length = ts.length := by
  induction k with
  | zero => rfl
  | succ k ih => simp [lows, ih]
theorem tabs_length (n : Nat) (h : 0 < n) (ts : List Int) (k : Nat) : (tabs n h ts k).length = ts.length := by
  induction k with
  | zero => exact lows_length n ts n
  | succ k ih => exact (ovl_length _ _ _ _).trans ih
theorem lows_tops {n : Nat} {ts : List Int} (h : Tops ts) (k : Nat) : Tops (lows n ts k) := by
  induction k with
  | zero => exact h
  | succ k ih =>
    intro y hy
    rcases List.mem_or_eq_of_mem_set hy with hy | rfl
    · exact ih y hy
    · exact Int.le_trans (lsr_le _ _).2 (by decide)
theorem tabs_tops {n : Nat} (h0 : 0 < n) {ts : List Int} (h : Tops ts) (k : Nat) : Tops (tabs n h0 ts k) := by
  induction k with
  | zero => exact lows_tops h n
  | succ k ih => exact tops_ovl ih n k _

/-- what lies there while a matrix is closed. -/
def Mid (n g Bm B : Nat) (sv : Value) (us : List Int) (W : World) : Prop :=
  lies.Lies W B 27 #[.int .i64 n, sv] ∧ lies.Lies W (B + 1) 27 #[.int .i64 0, .slice none 0 0] ∧ lies.Lies W Bm 54 #[.int .i64 n, .slice (some ⟨g, 0, none⟩) (n * n) (n * n)] ∧ lies.Lies W g 29 (cellsOf us)
theorem Mid.below {n g Bm B : Nat} {sv : Value} {us : List Int} {W X : World} (h : Mid n g Bm B sv us W) (k : Below W.heap.size W X) : Mid n g Bm B sv us X :=
  ⟨lies.on_call h.1 k, lies.on_call h.2.1 k, lies.on_call h.2.2.1 k, lies.on_call h.2.2.2 k⟩
theorem ne_type {W : World} {g b : Nat} {t s : TypeId} {cs ds : Array Value} (h : lies.Lies W g t cs) (k : lies.Lies W b s ds) (hne : t ≠ s) : g ≠ b := fun e => by
  subst e
  have h1 : W.heap[g]? = some (.cells cs t (0, 0)) := h
  have h2 : W.heap[g]? = some (.cells ds s (0, 0)) := k
  rw [h1] at h2
  cases h2
  exact hne rfl
theorem Mid.turned {n g Bm B : Nat} {sv : Value} {us vs : List Int} {W X : World} (h : Mid n g Bm B sv us W) (k : W.grownBy X (some g)) (hg : lies.Lies X g 29 (cellsOf vs)) : Mid n g Bm B sv vs X := by
  obtain ⟨h1, h2, h3, h4⟩ := h
  have n1 := ne_type h4 h1 (by decide)
  have n2 := ne_type h4 h2 (by decide)
  have n3 := ne_type h4 h3 (by decide)
  exact ⟨(k.block _ (lies.lt h1) (fun e => n1 (by cases e; rfl))).trans h1, (k.block _ (lies.lt h2) (fun e => n2 (by cases e; rfl))).trans h2, (k.block _ (lies.lt h3) (fun e => n3 (by cases e; rfl))).trans h3, hg⟩
theorem put_turned {g P : Nat} {v : Int} {us : List Int} {w w' : World} {e : Ending} (hg : lies.Lies w g 29 (cellsOf us)) (h : Put g P (.int .i64 v) w e w') : lies.Lies w' g 29 (cellsOf (us.set P v)) ∧ w.grownBy w' (some g) := by
  have hP := h.2
  refine ⟨?_, grown_below (grown_set (grown_refl w (some g)) P (.int .i64 v)) hP (Nat.le_refl _)⟩
  have q := lies.on_call (lies.on_put hg P (.int .i64 v)) (hP.mono (by simp))
  rwa [cells_set] at q
theorem below_grown {B g : Nat} {w X Y : World} (h : Below B w X) (k : X.grownBy Y (some g)) (hB : B ≤ X.heap.size) (hg : B ≤ g) : Below B w Y := h.grown k hB (fun j e => by cases e; exact hg)
/-- is a clock's bound of itself below 0? -/
def emp (n : Nat) (us : List Int) : Prop := ∃ i, i < n ∧ tat us n i i < 1
/-- what Close answers of a matrix that may be. -/
def Clo (n : Nat) (h0 : 0 < n) (ts : List Int) (w : World) (e : Ending) (w' : World) : Prop := Below w.heap.size w w' ∧
  ((∃ k, k ≤ n ∧ emp n (tabs n h0 ts k) ∧ e = .returned (.tuple #[.agg #[.int .i64 0, .slice none 0 0], .int .i64 6])) ∨
   ((∀ k, k ≤ n → ¬ emp n (tabs n h0 ts k)) ∧ ∃ g, w.heap.size ≤ g ∧ e = .returned (.tuple #[.agg #[.int .i64 n, .slice (some ⟨g, 0, none⟩) (n * n) (n * n)], .int .i64 0]) ∧ lies.Lies w' g 29 (cellsOf (tabs n h0 ts n))))
theorem row_of {W : World} {g : Nat} {us : List Int} (h : lies.Lies W g 29 (cellsOf us)) : Row W g 0 us := fun p hp => by
  rw [Nat.zero_add]
  exact (lies.cell h p).trans (cells_at us p hp)

set_option maxRecDepth 100000 in
set_option maxHeartbeats 4000000 in
theorem close_ok (n b off cap : Nat) (ts : List Int) (w : World) (h0 : 0 < n) (hr : Row w b off ts) (hb : b < w.heap.size) (htop : Tops ts) (h : MayD n ts) (hl : ts.length = n * n) (hn : n ≤ 4) :
    Calls Try.prog 11 #[.agg #[.int .i64 n, .slice (some ⟨b, off, none⟩) (n * n) cap]] w (Clo n h0 ts w) := by
  have hI1 : law.Ints (((w.alloc (.cells #[.int .i64 n, .slice (some ⟨b, off, none⟩) (n * n) cap] 27)).alloc (.cells #[.int .i64 0, .slice none 0 0] 27))).heap.size ((w.alloc (.cells #[.int .i64 n, .slice (some ⟨b, off, none⟩) (n * n) cap] 27)).alloc (.cells #[.int .i64 0, .slice none 0 0] 27)) (.slice (some ⟨b, off, none⟩) (n * n) cap) ts :=
    .inr ⟨b, off, cap, by rw [hl], by simp; omega, hr.below (((Below.refl _ w).alloc (Nat.le_refl _) _).alloc (by simp) _) hb⟩
  have D0 := lies.on_alloc (lies.made w 27 #[.int .i64 n, .slice (some ⟨b, off, none⟩) (n * n) cap]) (.cells #[.int .i64 0, .slice none 0 0] 27)
  have D1 := lies.made_at (w.alloc (.cells #[.int .i64 n, .slice (some ⟨b, off, none⟩) (n * n) cap] 27)) 27 #[.int .i64 0, .slice none 0 0] (w.heap.size + 1) (World.size_alloc _ _)
  have HI := Lib.hid hI1
  have HR := Lib.hid hr
  have HT := Lib.hid htop
  have HM := Lib.hid h
  have HL := Lib.hid hl
  clear hI1 hr htop h hl
  have hnn := sq_le hn
  have hpos : 0 < n * n := Nat.mul_pos h0 h0
  go_enter Try.func11, Try.ntmps11
  go_wp2_with (first
    | (go_at_call 18; refine (check_ok n _ ts _ HI.out HT.out HM.out).mono ?_; rintro e w1 ⟨rfl, hB1⟩; have E0 := lies.on_call D0 hB1; have E1 := lies.on_call D1 hB1; have hK1 : Below w.heap.size w w1 := (((Below.refl w.heap.size w).alloc (Nat.le_refl _) _).alloc (by simp) _).trans (hB1.mono (by simp; omega)); clear D0 D1 hB1; obtain ⟨x0, x1, x2, x3, x4⟩ := lies.two E0)
    | (go_at_call 16; refine (twin_row n b off (n * n) cap ts _ (HR.out.below hK1 hb) (by have := hK1.size; omega) HL.out hpos (by omega)).mono ?_; rintro e w2 ⟨g, hg, rfl, hG, hB2⟩; have F0 := lies.on_call E0 hB2; have F1 := lies.on_call E1 hB2; have hK2 := hK1.trans (hB2.mono hK1.size); have hgw : w.heap.size ≤ g := Nat.le_trans hK1.size hg; clear E0 E1 hK1 hB2 x0 x1 x2 x3 x4))
  have G0 : Mid n g w2.heap.size w.heap.size (.slice (some ⟨b, off, none⟩) (n * n) cap) (lows n ts 0) (w2.alloc (.cells #[.int .i64 n, .slice (some ⟨g, 0, none⟩) (n * n) (n * n)] 54)) := ⟨lies.on_alloc F0 _, lies.on_alloc F1 _, lies.made _ _ _, lies.on_alloc hG _⟩
  have GB : Below w.heap.size w (w2.alloc (.cells #[.int .i64 n, .slice (some ⟨g, 0, none⟩) (n * n) (n * n)] 54)) := hK2.alloc hK2.size _
  clear F0 F1 hG hK2
  generalize w2.heap.size = Bm at G0 ⊢
  generalize w2.alloc (.cells #[.int .i64 n, .slice (some ⟨g, 0, none⟩) (n * n) (n * n)] 54) = w3 at G0 GB ⊢
  go_loopw [20] (fun i wr => ∃ k : Nat, k ≤ n ∧ i = .int .i64 k ∧ Mid n g Bm w.heap.size (.slice (some ⟨b, off, none⟩) (n * n) cap) (lows n ts k) wr ∧ Below w.heap.size w wr)
    (fun i _ => n - (intOf i).toNat)
  case atStart => exact ⟨0, Nat.zero_le _, rfl, G0, GB⟩
  case round =>
    clear G0 GB
    obtain ⟨k, hk, rfl, hM, hB⟩ := hrel
    obtain ⟨c0, c1, f0, f1, hlt⟩ := lies.two hM.2.2.1
    by_cases hkn : k < n
    · have hg4 := lies.lt hM.2.2.2
      have hc4 : wr.cell? ⟨g, k * n + k, none⟩ = some (.int .i64 (tat (lows n ts k) n k k)) := (lies.cell hM.2.2.2 (k * n + k)).trans (cells_at _ _ (by rw [lows_length, HL.out]; exact place_le hn hkn hkn))
      have hf4 := lies.free hM.2.2.2 (k * n + k)
      generalize hx : tat (lows n ts k) n k k = x at hc4
      have HX := Lib.hid hx
      have HC := Lib.hid hc4
      have HF := Lib.hid hf4
      clear hx hc4 hf4
      go_wp2_with (go_at_call 28; refine (lower_nat n k k g (n * n) x 1 _ hn hkn hkn hg4 HC.out HF.out).mono ?_; rintro e w4 hP; have hT := put_turned hM.2.2.2 hP; obtain rfl := hP.1)
      go_roundw
      case rel => exact ⟨k + 1, by omega, by go_num, hM.turned hT.2 (by unfold lows; rw [HX.out]; exact hT.1), below_grown hB hT.2 hB.size hgw⟩
      case measure => simp [intOf]; omega
    · obtain rfl : n = k := by omega
      go_wp2
      have hM0 : Mid n g Bm w.heap.size (.slice (some ⟨b, off, none⟩) (n * n) cap) (tabs n h0 ts 0) wr := hM
      clear c0 c1 f0 f1 hlt hM hk hkn
      go_loopw [7] (fun i wx => ∃ k : Nat, k ≤ n ∧ i = .int .i64 k ∧ Mid n g Bm w.heap.size (.slice (some ⟨b, off, none⟩) (n * n) cap) (tabs n h0 ts k) wx ∧ RowKit.Hid (∀ m, m < k → ¬ emp n (tabs n h0 ts m)) ∧ Below w.heap.size w wx)
        (fun i _ => n - (intOf i).toNat)
      case atStart => exact ⟨0, Nat.zero_le _, rfl, hM0, Lib.hid (fun m hm => absurd hm (by omega)), hB⟩
      case round =>
        rename_i wx
        clear hM0 hB
        obtain ⟨k, hk, rfl, hM, hne, hB⟩ := hrel
        obtain ⟨c0, c1, f0, f1, hlt⟩ := lies.two hM.2.2.1
        have hlen : (tabs n h0 ts k).length = n * n := (tabs_length n h0 ts k).trans HL.out
        go_wp2_with fail
        refine (empty_any n g 0 (n * n) (tabs n h0 ts k) _ hn hlen (row_of hM.2.2.2) (lies.lt hM.2.2.2)).mono ?_
        rintro e w4 ⟨hB4, r, rfl, hr1, hr2⟩
        have hM4 := hM.below hB4
        have hBw := hB.trans (hB4.mono hB.size)
        obtain ⟨c0, c1, f0, f1, hlt⟩ := lies.two hM4.2.2.1
        obtain ⟨d0, d1, e0, e1, hlu⟩ := lies.two hM4.2.1
        have HN := Lib.hid hlen
        clear hM hB hB4 hlen
        cases r with
        | true =>
          have H1 := Lib.hid (hr1 rfl)
          clear hr1 hr2
          go_wp2_with fail
          refine bodyPost_ret (v := .tuple #[.agg #[.int .i64 0, .slice none 0 0], .int .i64 6]) (by simp [results, Try.results11, go_sem, d0, d1]) rfl ⟨?_, .inl ⟨k, hk, H1.out, rfl⟩⟩
          exact (hBw.setCell (p := ⟨w.heap.size + 1, 0, none⟩) (by simp) _).setCell (p := ⟨w.heap.size + 1, 1, none⟩) (by simp) _
        | false =>
          have H2 := Lib.hid (hr2 rfl)
          clear hr1 hr2
          by_cases hkn : k = n
          · have hne' : RowKit.Hid (∀ m, m ≤ n → ¬ emp n (tabs n h0 ts m)) := Lib.hid (fun m hm hem => by
              by_cases e : m = n
              · subst e; subst hkn; obtain ⟨i, hi, hi'⟩ := hem; have := H2.out i hi; omega
              · exact hne.out m (by omega) hem)
            obtain rfl : n = k := hkn.symm
            clear hne H2 hk
            go_wp2_with fail
            refine bodyPost_ret (v := .tuple #[.agg #[.int .i64 n, .slice (some ⟨g, 0, none⟩) (n * n) (n * n)], .int .i64 0]) (by simp [results, Try.results11, go_sem, d0, d1]) rfl ⟨?_, .inr ⟨hne'.out, g, hgw, rfl, ?_⟩⟩
            · exact (hBw.setCell (p := ⟨w.heap.size + 1, 0, none⟩) (by simp) _).setCell (p := ⟨w.heap.size + 1, 1, none⟩) (by simp) _
            · have n2 := ne_type hM4.2.2.2 hM4.2.1 (by decide)
              exact lies.on_far (lies.on_far hM4.2.2.2 0 n2 _) 1 n2 _
          · have t1 : ((k : Int) == (n : Int)) = false := by simp; omega
            have hkl : k < n := by omega
            have HK := Lib.hid hkn
            clear hkn
            go_wp2_with (go_at_call 30; refine (over_any n k g (n * n) (tabs n h0 ts k) _ h0 hn hkl HN.out (tabs_tops h0 HT.out k) hM4.2.2.2).mono ?_; rintro e w5 ⟨rfl, hT, hG⟩)
            go_roundw
            case rel => exact ⟨k + 1, by omega, by go_num, hM4.turned hG hT, Lib.hid (fun m hm => by
              by_cases e : m = k
              · subst e; rintro ⟨i, hi, hi'⟩; have := H2.out i hi; omega
              · exact hne.out m (by omega)), below_grown hBw hG hBw.size hgw⟩
            case measure => simp [intOf]; omega
end Go.Proofs.Ytlagnbbbokgdfaa.dbm
