/-
  Orders, and Drop, Grow and Move as package proj answers them; each theorem names its conditions.
-/
import Derived.Test.YtikjkmhnimpbhaaProjB
namespace Go.Proofs.Ytikjkmhnimpbhaa.proj
open Go.Joins Go.ChangeShapes Go.WideShapes Go.ChangeAt Go.RowKit num rat dbm Go.Proofs.Ytikjkmhnimpbhaa.tight
open bound hiding up
set_option linter.unusedVariables false
set_option linter.unusedSimpArgs false

/-! is a number in a list? -/
theorem index_is (b off len cap : Nat) (os : List Int) (v : Int) (w : World) (hr : Row w b off os) (hl : os.length = len) (hm : len ≤ 1000) :
    Calls Try.prog 75 #[.slice (some ⟨b, off, none⟩) len cap, .int .i64 v] w fun e w' => (∃ r : Int, e = .returned (.int .i64 r) ∧ (0 ≤ r ↔ v ∈ os)) ∧ Below w.heap.size w w' := by
  have HR := Lib.hid hr
  have HL := Lib.hid hl
  clear hr hl
  go_enter Try.func75, Try.ntmps75
  go_wp2_with fail
  go_loopw [8] (fun i wr => ∃ k : Nat, k ≤ len ∧ i = .int .i64 k ∧ RowKit.Hid (∀ j, j < k → os[j]?.getD 0 ≠ v) ∧ w = wr) (fun i _ => len - (intOf i).toNat)
  case atStart => exact ⟨0, Nat.zero_le _, rfl, Lib.hid (fun j hj => absurd hj (by omega)), rfl⟩
  case round =>
    obtain ⟨k, hk, rfl, hA, rfl⟩ := hrel
    by_cases hkl : k < len
    · have hz := HR.out k (by rw [HL.out]; exact hkl)
      have hmem : os[k]?.getD 0 ∈ os := by
        rw [List.getElem?_eq_getElem (by rw [HL.out]; exact hkl)]
        exact List.getElem_mem _
      by_cases e : os[k]?.getD 0 = v
      · rw [e] at hz hmem
        have HMM := Lib.hid hmem
        clear e hmem
        go_wp2_with fail
        go_ret
        exact ⟨⟨k, rfl, fun _ => HMM.out, fun _ => by omega⟩, Below.refl _ _⟩
      · have hup : RowKit.Hid (∀ j, j < k + 1 → os[j]?.getD 0 ≠ v) := Lib.hid fun j hj => by
          by_cases h : j = k
          · rw [h]; exact e
          · exact hA.out j (by omega)
        have e' : ¬ v = os[k]?.getD 0 := fun h => e h.symm
        generalize os[k]?.getD 0 = z at hz e e'
        clear hmem
        go_wp2_with fail
        go_roundw
        case rel => exact ⟨k + 1, by omega, by go_num, hup, by first | rfl | trivial⟩
        case measure => simp [intOf]; omega
    · obtain rfl : len = k := by omega
      have hno : ¬ v ∈ os := fun h => by
        obtain ⟨j, hj, e⟩ := List.getElem_of_mem h
        refine hA.out j (by rw [← HL.out]; exact hj) ?_
        rw [List.getElem?_eq_getElem hj]
        exact e
      have HNO := Lib.hid hno
      clear hno
      go_wp2_with fail
      go_ret
      exact ⟨⟨-1, rfl, fun h => by omega, fun h => (HNO.out h).elim⟩, Below.refl _ _⟩
theorem contains_is (b off len cap : Nat) (os : List Int) (v : Int) (w : World) (hr : Row w b off os) (hl : os.length = len) (hm : len ≤ 1000) :
    Calls Try.prog 51 #[.slice (some ⟨b, off, none⟩) len cap, .int .i64 v] w fun e w' => e = .returned (.bool (decide (v ∈ os))) ∧ Below w.heap.size w w' := by
  have C := Lib.hid (index_is b off len cap os v w hr hl hm)
  clear hr hl
  by_cases h : v ∈ os
  · rw [decide_eq_true h]
    have HH := Lib.hid h
    clear h
    go_enter Try.func51, Try.ntmps51
    go_wp2_with fail
    refine C.out.mono ?_
    rintro e w' ⟨⟨r, rfl, hr⟩, hB⟩
    have h0 := hr.2 HH.out
    clear hr C
    go_wp2_with fail
    go_ret
    exact ⟨rfl, hB⟩
  · rw [decide_eq_false h]
    have HH := Lib.hid h
    clear h
    go_enter Try.func51, Try.ntmps51
    go_wp2_with fail
    refine C.out.mono ?_
    rintro e w' ⟨⟨r, rfl, hr⟩, hB⟩
    have h0 : ¬ 0 ≤ r := fun k => HH.out (hr.1 k)
    have h1 : decide (0 ≤ r) = false := decide_eq_false h0
    clear hr C
    go_wp2_with fail
    go_ret
    exact ⟨rfl, hB⟩

/-- is a list an order of so many clocks? -/
def Ord (n : Nat) (os : List Int) : Prop := os.length = n ∧ os[0]?.getD 0 = 0 ∧ ∀ v : Nat, v < n → (v : Int) ∈ os
theorem ints_form {n₀ : Nat} {W : World} {v : Value} {zs : List Int} (h : law.Ints n₀ W v zs) (h0 : 0 < zs.length) : ∃ b off cap, v = .slice (some ⟨b, off, none⟩) zs.length cap ∧ b < n₀ ∧ Row W b off zs := by
  rcases h with ⟨_, rfl⟩ | h
  · simp at h0
  · exact h
/-- what a call that tells something by true or false answers. -/
def TellB (V : Prop) (w : World) (e : Ending) (w' : World) : Prop := ∃ r : Bool, e = .returned (.bool r) ∧ (r = true ↔ V) ∧ Below w.heap.size w w'
set_option maxRecDepth 100000 in
set_option maxHeartbeats 2000000 in
theorem orders_any (n : Nat) (ov : Value) (os : List Int) (w : World) (h0 : 0 < n) (hn : n ≤ 4) (hI : law.Ints w.heap.size w ov os) :
    Calls Try.prog 25 #[ov, .int .i64 n] w (TellB (Ord n os) w) := by
  by_cases hl : os.length = n
  · obtain ⟨b, off, cap, rfl, hb, hr⟩ := ints_form hI (by omega)
    have hz := hr 0 (by omega)
    have n0 : (0 : Int) < (n : Int) := by omega
    rw [Nat.add_zero] at hz
    by_cases hz0 : os[0]?.getD 0 = 0
    · rw [hz0] at hz
      rw [hl]
      have HR := Lib.hid hr
      have HL := Lib.hid hl
      have HZ := Lib.hid hz0
      clear hr hl hz0 hI
      go_enter Try.func25, Try.ntmps25
      go_wp2_with fail
      clear hz
      go_loopw [17] (fun i wr => ∃ k : Nat, k ≤ n ∧ i = .int .i64 k ∧ RowKit.Hid (∀ v : Nat, v < k → (v : Int) ∈ os) ∧ Below w.heap.size w wr) (fun i _ => n - (intOf i).toNat)
      case atStart => exact ⟨0, Nat.zero_le _, rfl, Lib.hid (fun j hj => absurd hj (by omega)), Below.refl _ _⟩
      case round =>
        obtain ⟨k, hk, rfl, hA, hB⟩ := hrel
        by_cases hkn : k < n
        · have C := Lib.hid (contains_is b off n cap os k wr (HR.out.below hB hb) HL.out (by omega))
          by_cases hm : (k : Int) ∈ os
          · rw [decide_eq_true hm] at C
            have hup : RowKit.Hid (∀ v : Nat, v < k + 1 → (v : Int) ∈ os) := Lib.hid fun v hv => by
              by_cases e : v = k
              · rw [e]; exact hm
              · exact hA.out v (by omega)
            clear hm hA
            go_wp2_with fail
            refine C.out.mono ?_
            rintro e w' ⟨rfl, hB'⟩
            clear C
            go_wp2_with fail
            go_roundw
            case rel => exact ⟨k + 1, by omega, by go_num, hup, hB.trans (hB'.mono hB.size)⟩
            case measure => simp [intOf]; omega
          · rw [decide_eq_false hm] at C
            have HNO := Lib.hid hm
            clear hm hA
            go_wp2_with fail
            refine C.out.mono ?_
            rintro e w' ⟨rfl, hB'⟩
            clear C
            go_wp2_with fail
            go_ret
            exact ⟨false, rfl, ⟨fun h => absurd h (by decide), fun h => (HNO.out (h.2.2 k hkn)).elim⟩, hB.trans (hB'.mono hB.size)⟩
        · obtain rfl : n = k := by omega
          go_wp2_with fail
          go_ret
          exact ⟨true, rfl, ⟨fun _ => ⟨HL.out, HZ.out, hA.out⟩, fun _ => rfl⟩, hB⟩
    · have HZ := Lib.hid hz0
      have hz0' : ¬ os[0]?.getD 0 = 0 := hz0
      generalize hx : os[0]?.getD 0 = x at hz hz0'
      rw [hl]
      clear hr hl hz0 hI hx
      go_enter Try.func25, Try.ntmps25
      go_wp2_with fail
      go_ret
      exact ⟨false, rfl, ⟨fun h => absurd h (by decide), fun h => (HZ.out h.2.1).elim⟩, Below.refl _ _⟩
  · obtain ⟨ad, cap, rfl⟩ := ints_len hI
    have HL := Lib.hid hl
    have t1 : ¬ (os.length : Int) = (n : Int) := by omega
    generalize os.length = L at t1 ⊢
    clear hl hI
    go_enter Try.func25, Try.ntmps25
    go_wp2_with fail
    go_ret
    exact ⟨false, rfl, ⟨fun h => absurd h (by decide), fun h => (HL.out h.1).elim⟩, Below.refl _ _⟩

/-! what the calls answer -/
/-- a matrix, or none, and a number; the matrix in new memory. -/
def Gv (R : Int → List Int → Int → Prop) (w : World) (e : Ending) (w' : World) : Prop := Below w.heap.size w w' ∧ ∃ (na : Int) (aa : Option Addr) (la ca : Nat) (us : List Int) (f : Int), e = .returned (.tuple #[.agg #[.int .i64 na, .slice aa la ca], .int .i64 f]) ∧ R na us f ∧ Blk w.heap.size w' aa la ca us
def No (err : Int) (na : Int) (us : List Int) (f : Int) : Prop := na = 0 ∧ us = [] ∧ f = err
def Kc (n k : Int) : Prop := 1 ≤ k ∧ k < n
def DropR (n : Int) (ts : List Int) (k : Int) (na : Int) (us : List Int) (f : Int) : Prop := (¬ MayD n ts ∧ No 8 na us f) ∨ (MayD n ts ∧ ¬ Kc n k ∧ No 2 na us f) ∨ (MayD n ts ∧ Kc n k ∧ ¬ OkD n ts ∧ No 6 na us f) ∨ (OkD n ts ∧ Kc n k ∧ na = ((n.toNat - 1 : Nat) : Int) ∧ us = dropT n.toNat k.toNat ts ∧ f = 0)
def GrowR (n : Int) (ts : List Int) (na : Int) (us : List Int) (f : Int) : Prop := (¬ MayD n ts ∧ No 8 na us f) ∨ (MayD n ts ∧ n = 4 ∧ No 9 na us f) ∨ (MayD n ts ∧ n < 4 ∧ na = ((n.toNat + 1 : Nat) : Int) ∧ us = growT n.toNat ts ∧ f = 0)
def ordF (os : List Int) (i : Nat) : Nat := (os[i]?.getD 0).toNat
def MoveR (n : Int) (ts os : List Int) (na : Int) (us : List Int) (f : Int) : Prop := (¬ MayD n ts ∧ No 8 na us f) ∨ (MayD n ts ∧ ¬ Ord n.toNat os ∧ No 2 na us f) ∨ (MayD n ts ∧ Ord n.toNat os ∧ na = n ∧ us = moveT n.toNat (ordF os) ts ∧ f = 0)
theorem Gv.no {R : Int → List Int → Int → Prop} {err : Int} {w w' : World} (h : Below w.heap.size w w') (k : R 0 [] err) : Gv R w (.returned (.tuple #[.agg #[.int .i64 0, .slice none 0 0], .int .i64 err])) w' := ⟨h, 0, none, 0, 0, [], err, rfl, k, .inl ⟨rfl, rfl, rfl, rfl⟩⟩

/-- an order's numbers are clocks, each of them once. -/
theorem erase_len {l : List Int} : ∀ {a : List Int}, a.Nodup → (∀ x ∈ a, x ∈ l) → a.length ≤ l.length := by
  intro a
  induction a generalizing l with
  | nil => intro _ _; exact Nat.zero_le _
  | cons x a ih =>
    intro hn hs
    have hx : x ∈ l := hs x List.mem_cons_self
    have hn' := List.nodup_cons.1 hn
    have := ih (l := l.erase x) hn'.2 (fun y hy => (List.mem_erase_of_ne (fun e => hn'.1 (by rw [← e]; exact hy))).2 (hs y (List.mem_cons_of_mem _ hy)))
    rw [List.length_erase_of_mem hx] at this
    have : 0 < l.length := List.length_pos_of_mem hx
    simp only [List.length_cons]
    omega
theorem ints_nodup (n : Nat) : ((List.range n).map (fun v : Nat => (v : Int))).Nodup := by
  refine List.Pairwise.map _ (fun a b h => ?_) List.nodup_range
  omega
theorem ord_mem {n : Nat} {os : List Int} (h : Ord n os) {i : Nat} (hi : i < n) : 0 ≤ os[i]?.getD 0 ∧ os[i]?.getD 0 < n := by
  have hil : i < os.length := by rw [h.1]; exact hi
  have hmem : os[i]?.getD 0 ∈ os := by rw [List.getElem?_eq_getElem hil]; exact List.getElem_mem _
  generalize os[i]?.getD 0 = x at hmem
  refine Classical.byContradiction fun hno => ?_
  have := erase_len (l := os.erase x) (ints_nodup n) (fun y hy => by
    obtain ⟨v, hv, rfl⟩ := List.mem_map.1 hy
    have hv := List.mem_range.1 hv
    exact (List.mem_erase_of_ne (fun e => by omega)).2 (h.2.2 v hv))
  rw [List.length_erase_of_mem hmem, h.1] at this
  simp at this
  omega
theorem ord_inj {n : Nat} {os : List Int} (h : Ord n os) {i j : Nat} (hi : i < n) (hj : j < n) (e : os[i]?.getD 0 = os[j]?.getD 0) : i = j := by
  refine Classical.byContradiction fun hne => ?_
  have hil : i < os.length := by rw [h.1]; exact hi
  have hjl : j < os.length := by rw [h.1]; exact hj
  have := erase_len (l := os.eraseIdx j) (ints_nodup n) (fun y hy => by
    obtain ⟨v, hv, rfl⟩ := List.mem_map.1 hy
    have hv := List.mem_range.1 hv
    obtain ⟨p, hp, ep⟩ := List.getElem_of_mem (h.2.2 v hv)
    rw [List.mem_eraseIdx_iff_getElem]
    by_cases k : p = j
    · subst k
      refine ⟨i, hil, hne, ?_⟩
      rw [List.getElem?_eq_getElem hil, List.getElem?_eq_getElem hjl] at e
      exact e.trans ep
    · exact ⟨p, hp, k, ep⟩)
  rw [List.length_eraseIdx_of_lt hjl, h.1] at this
  simp at this
  omega
theorem ord_nat {n : Nat} {os : List Int} (h : Ord n os) {i : Nat} (hi : i < n) : ordF os i < n ∧ os[i]?.getD 0 = (ordF os i : Int) := by
  have := ord_mem h hi
  unfold ordF
  omega
theorem Gv.yes {R : Int → List Int → Int → Prop} {q g m : Nat} {us : List Int} {w W : World} {u v : Value} (hB : Below w.heap.size w W) (hq : w.heap.size ≤ q) (hg : q < g) (hG : lies.Lies W g 29 (cellsOf us)) (hl : us.length = m * m) (k : R m us 0) :
    Gv R w (.returned (.tuple #[.agg #[.int .i64 m, .slice (some ⟨g, 0, none⟩) (m * m) (m * m)], .int .i64 0])) ((W.setCell ⟨q, 0, none⟩ u).setCell ⟨q, 1, none⟩ v) :=
  ⟨(hB.setCell (p := ⟨q, 0, none⟩) hq _).setCell (p := ⟨q, 1, none⟩) hq _, m, _, _, _, us, 0, rfl, k, .inr ⟨g, by omega, rfl, hl.symm, lies.on_far (lies.on_far hG (b := q) 0 (by omega) _) (b := q) 1 (by omega) _⟩⟩
theorem Gv.bad {R : Int → List Int → Int → Prop} {q : Nat} {err : Int} {w W : World} {u v : Value} (hB : Below w.heap.size w W) (hq : w.heap.size ≤ q) (k : R 0 [] err) :
    Gv R w (.returned (.tuple #[.agg #[.int .i64 0, .slice none 0 0], .int .i64 err])) ((W.setCell ⟨q, 0, none⟩ u).setCell ⟨q, 1, none⟩ v) := Gv.no ((hB.setCell (p := ⟨q, 0, none⟩) hq _).setCell (p := ⟨q, 1, none⟩) hq _) k
theorem boxP (n : Int) (sv x : Value) (t : TypeId) (w : World) : Below w.heap.size w (((w.alloc (.cells #[.int .i64 n, sv] 24)).alloc (.cells #[x] t)).alloc (.cells #[.int .i64 0, .slice none 0 0] 24)) ∧ lies.Lies (((w.alloc (.cells #[.int .i64 n, sv] 24)).alloc (.cells #[x] t)).alloc (.cells #[.int .i64 0, .slice none 0 0] 24)) w.heap.size 24 #[.int .i64 n, sv] ∧ lies.Lies (((w.alloc (.cells #[.int .i64 n, sv] 24)).alloc (.cells #[x] t)).alloc (.cells #[.int .i64 0, .slice none 0 0] 24)) (w.heap.size + 1) t #[x] ∧ lies.Lies (((w.alloc (.cells #[.int .i64 n, sv] 24)).alloc (.cells #[x] t)).alloc (.cells #[.int .i64 0, .slice none 0 0] 24)) (w.heap.size + 1 + 1) 24 #[.int .i64 0, .slice none 0 0] :=
  ⟨bound.up3 _ _ _ _, lies.on_alloc (lies.on_alloc (lies.made w _ _) _) _, lies.on_alloc (lies.made_at _ _ _ _ (World.size_alloc _ _)) _, lies.made_at _ _ _ _ (by simp)⟩

set_option maxRecDepth 100000 in
set_option maxHeartbeats 4000000 in
theorem grow_any (n : Int) (sv : Value) (ts : List Int) (w : World) (hI : law.Ints w.heap.size w sv ts) (hm : ts.length ≤ 1000000) (htop : Tops ts) :
    Calls Try.prog 12 #[.agg #[.int .i64 n, sv]] w (Gv (GrowR n ts) w) := by
  obtain ⟨DB, D0, D1⟩ := dref.box_res n sv w
  have C := Lib.hid (check4_any n sv ts _ ((hI.below DB).mono DB.size) hm htop)
  by_cases hmay : MayD n ts
  · have e0 : chkD n ts = 0 := if_pos hmay
    rw [e0] at C
    obtain ⟨m, rfl, h0, hn, hl⟩ := may_nat hmay
    obtain ⟨b, off, cap, rfl, hb, hr⟩ := ints_form hI (by rw [hl]; exact Nat.mul_pos h0 h0)
    rw [hl] at C D0 D1 DB ⊢
    have HM := Lib.hid hmay
    have HR := Lib.hid hr
    have HL := Lib.hid hl
    clear hI hm htop hmay e0 hr hl
    by_cases h4 : m = 4
    · have t1 : (m : Int) = 4 := by omega
      have hg : GrowR m ts 0 [] 9 := .inr (.inl ⟨HM.out, t1, rfl, rfl, rfl⟩)
      have HG := Lib.hid hg
      clear h4 hg
      rw [t1] at C D0 D1 DB HG ⊢
      clear t1 HM
      go_enter Try.func12, Try.ntmps12
      go_wp2_with fail
      generalize (w.alloc (.cells #[.int .i64 4, .slice (some ⟨b, off, none⟩) (m * m) cap] 24)).alloc (.cells #[.int .i64 0, .slice none 0 0] 24) = w0 at D0 D1 DB C ⊢
      refine C.out.mono ?_
      rintro e w1 ⟨rfl, hB⟩
      have E0 := lies.on_call D0 hB
      have E1 := lies.on_call D1 hB
      have EB := DB.trans (hB.mono DB.size)
      clear D0 D1 DB hB C
      obtain ⟨x0, x1, x2, x3, x4⟩ := lies.two E0
      obtain ⟨y0, y1, y2, y3, y4⟩ := lies.two E1
      go_wp2_with fail
      exact bodyPost_ret (v := .tuple #[.agg #[.int .i64 0, .slice none 0 0], .int .i64 9]) (by simp [results, Try.results12, go_sem, y0, y1]) rfl (Gv.bad EB (by omega) HG.out)
    · have t1 : ¬ (m : Int) = 4 := by omega
      have z1 : wrap64 ((m : Int) + 1) = ((m + 1 : Nat) : Int) := by rw [IntWalk.wrap64_in _ ⟨by omega, by omega⟩]; omega
      have z2 : IntKind.i64.wrap ((m : Int) + 1) = ((m + 1 : Nat) : Int) := by rw [IntWalk.i64_in _ ⟨by omega, by omega⟩]; omega
      have hg : GrowR m ts ((m + 1 : Nat) : Int) (growT m ts) 0 := .inr (.inr ⟨HM.out, by omega, rfl, rfl, rfl⟩)
      have HG := Lib.hid hg
      clear hg
      go_enter Try.func12, Try.ntmps12
      go_wp2_with fail
      generalize (w.alloc (.cells #[.int .i64 m, .slice (some ⟨b, off, none⟩) (m * m) cap] 24)).alloc (.cells #[.int .i64 0, .slice none 0 0] 24) = w0 at D0 D1 DB C ⊢
      refine C.out.mono ?_
      rintro e w1 ⟨rfl, hB⟩
      have E0 := lies.on_call D0 hB
      have E1 := lies.on_call D1 hB
      have EB := DB.trans (hB.mono DB.size)
      clear D0 D1 DB hB C
      obtain ⟨x0, x1, x2, x3, x4⟩ := lies.two E0
      go_wp2_with fail
      clear z1 z2 x0 x1 x2 x3 x4
      have hbw := Nat.lt_of_lt_of_le hb EB.size
      refine (laidG_is m (m + 1) b off cap (fun i => i) ts w1 hn (by omega) (by omega) (HR.out.below EB hb) hbw HL.out (fun i hi => by omega) (fun i hi W hW => was_grow i W)).mono ?_
      rintro e w2 ⟨hB2, g, hg, rfl, hG⟩
      have F1 := lies.on_call E1 hB2
      have FB := EB.trans (hB2.mono EB.size)
      have hlt := lies.lt E1
      clear E0 E1 EB hB2
      obtain ⟨y0, y1, y2, y3, y4⟩ := lies.two F1
      go_wp2_with fail
      exact bodyPost_ret (v := .tuple #[.agg #[.int .i64 ((m + 1 : Nat) : Int), .slice (some ⟨g, 0, none⟩) ((m + 1) * (m + 1)) ((m + 1) * (m + 1))], .int .i64 0]) (by simp [results, Try.results12, go_sem, y0, y1]) rfl (Gv.yes FB (by omega) (by omega) hG (growT_length m ts) HG.out)
  · have e0 : chkD n ts = 8 := if_neg hmay
    rw [e0] at C
    have HG : RowKit.Hid (GrowR n ts 0 [] 8) := Lib.hid (.inl ⟨hmay, rfl, rfl, rfl⟩)
    clear hI hm htop hmay e0
    go_enter Try.func12, Try.ntmps12
    go_wp2_with fail
    generalize (w.alloc (.cells #[.int .i64 n, sv] 24)).alloc (.cells #[.int .i64 0, .slice none 0 0] 24) = w0 at D0 D1 DB C ⊢
    refine C.out.mono ?_
    rintro e w1 ⟨rfl, hB⟩
    have E1 := lies.on_call D1 hB
    have EB := DB.trans (hB.mono DB.size)
    clear D0 D1 DB hB C
    obtain ⟨y0, y1, y2, y3, y4⟩ := lies.two E1
    go_wp2_with fail
    exact bodyPost_ret (v := .tuple #[.agg #[.int .i64 0, .slice none 0 0], .int .i64 8]) (by simp [results, Try.results12, go_sem, y0, y1]) rfl (Gv.bad EB (by omega) HG.out)

set_option maxRecDepth 100000 in
set_option maxHeartbeats 4000000 in
theorem move_any (n : Int) (sv ov : Value) (ts os : List Int) (w : World) (hI : law.Ints w.heap.size w sv ts) (hm : ts.length ≤ 1000000) (htop : Tops ts) (hO : law.Ints w.heap.size w ov os) :
    Calls Try.prog 9 #[.agg #[.int .i64 n, sv], ov] w (Gv (MoveR n ts os) w) := by
  obtain ⟨oa, oc, rfl⟩ := ints_len hO
  obtain ⟨DB, D0, DP, D1⟩ := boxP n sv (.slice oa os.length oc) 30 w
  have C := Lib.hid (check4_any n sv ts _ ((hI.below DB).mono DB.size) hm htop)
  by_cases hmay : MayD n ts
  · have e0 : chkD n ts = 0 := if_pos hmay
    rw [e0] at C
    obtain ⟨m, rfl, h0, hn, hl⟩ := may_nat hmay
    obtain ⟨b, off, cap, rfl, hb, hr⟩ := ints_form hI (by rw [hl]; exact Nat.mul_pos h0 h0)
    rw [hl] at C D0 D1 DP DB ⊢
    have HM := Lib.hid hmay
    have HR := Lib.hid hr
    have HL := Lib.hid hl
    have HO := Lib.hid hO
    clear hI hm htop hmay e0 hr hl hO
    go_enter Try.func9, Try.ntmps9
    go_wp2_with fail
    generalize ((w.alloc (.cells #[.int .i64 m, .slice (some ⟨b, off, none⟩) (m * m) cap] 24)).alloc (.cells #[.slice oa os.length oc] 30)).alloc (.cells #[.int .i64 0, .slice none 0 0] 24) = w0 at D0 D1 DP DB C ⊢
    refine C.out.mono ?_
    rintro e w1 ⟨rfl, hB⟩
    have E0 := lies.on_call D0 hB
    have E1 := lies.on_call D1 hB
    have EP := lies.on_call DP hB
    have EB := DB.trans (hB.mono DB.size)
    clear D0 D1 DP DB hB C
    obtain ⟨x0, x1, x2, x3, x4⟩ := lies.two E0
    obtain ⟨p0, p1, p2⟩ := dbm.one EP
    go_wp2_with fail
    clear x0 x1 x2 x3 x4 p0 p1 p2
    refine (orders_any m (.slice oa os.length oc) os w1 h0 hn ((HO.out.below EB).mono EB.size)).mono ?_
    rintro e w2 ⟨r, rfl, hr, hB⟩
    replace E0 := lies.on_call E0 hB
    replace E1 := lies.on_call E1 hB
    replace EP := lies.on_call EP hB
    replace EB := EB.trans (hB.mono EB.size)
    clear hB
    cases r with
    | false =>
      have hno : ¬ Ord m os := fun h => absurd (hr.2 h) (by decide)
      have HG : RowKit.Hid (MoveR m ts os 0 [] 2) := Lib.hid (.inr (.inl ⟨HM.out, hno, rfl, rfl, rfl⟩))
      clear hr hno
      obtain ⟨y0, y1, y2, y3, y4⟩ := lies.two E1
      go_wp2_with fail
      exact bodyPost_ret (v := .tuple #[.agg #[.int .i64 0, .slice none 0 0], .int .i64 2]) (by simp [results, Try.results9, go_sem, y0, y1]) rfl (Gv.bad EB (by omega) HG.out)
    | true =>
      have hord := hr.1 rfl
      obtain ⟨ob, oo, od, eo, hob, hor⟩ := ints_form HO.out (by rw [hord.1]; exact h0)
      injection eo with eo1 eo2 eo3
      subst eo1
      subst eo3
      rw [hord.1] at EP ⊢
      have HG : RowKit.Hid (MoveR m ts os m (moveT m (ordF os) ts) 0) := Lib.hid (.inr (.inr ⟨HM.out, hord, rfl, rfl, rfl⟩))
      have HOR := Lib.hid hord
      have HRO := Lib.hid hor
      clear hr hord hor HO
      obtain ⟨x0, x1, x2, x3, x4⟩ := lies.two E0
      go_wp2_with fail
      clear x0 x1 x2 x3 x4
      have hbw := Nat.lt_of_lt_of_le hb EB.size
      refine (laidM_is (w.heap.size + 1) m m b off cap (ordF os) ts w2 hn h0 hn (HR.out.below EB hb) hbw HL.out (fun i hi => by have := (ord_nat HOR.out hi).1; omega) (fun i hi W hW => was_move (w.heap.size + 1) ob oo m oc i (ordF os i) W hi (lies.on_call EP hW) ?_)).mono ?_
      · have := (HRO.out.below (EB.trans (hW.mono EB.size)) hob) i (by rw [HOR.out.1]; exact hi)
        rwa [(ord_nat HOR.out hi).2] at this
      rintro e w3 ⟨hB2, g, hg, rfl, hG⟩
      have F1 := lies.on_call E1 hB2
      have FB := EB.trans (hB2.mono EB.size)
      have hlt := lies.lt E1
      clear E0 E1 EP EB hB2
      obtain ⟨y0, y1, y2, y3, y4⟩ := lies.two F1
      go_wp2_with fail
      exact bodyPost_ret (v := .tuple #[.agg #[.int .i64 (m : Int), .slice (some ⟨g, 0, none⟩) (m * m) (m * m)], .int .i64 0]) (by simp [results, Try.results9, go_sem, y0, y1]) rfl (Gv.yes FB (by omega) (by omega) hG (laidT_length _ _ _ _) HG.out)
  · have e0 : chkD n ts = 8 := if_neg hmay
    rw [e0] at C
    have HG : RowKit.Hid (MoveR n ts os 0 [] 8) := Lib.hid (.inl ⟨hmay, rfl, rfl, rfl⟩)
    clear hI hm htop hmay e0 hO
    go_enter Try.func9, Try.ntmps9
    go_wp2_with fail
    generalize ((w.alloc (.cells #[.int .i64 n, sv] 24)).alloc (.cells #[.slice oa os.length oc] 30)).alloc (.cells #[.int .i64 0, .slice none 0 0] 24) = w0 at D0 D1 DP DB C ⊢
    refine C.out.mono ?_
    rintro e w1 ⟨rfl, hB⟩
    have E1 := lies.on_call D1 hB
    have EB := DB.trans (hB.mono DB.size)
    clear D0 D1 DP DB hB C
    obtain ⟨y0, y1, y2, y3, y4⟩ := lies.two E1
    go_wp2_with fail
    exact bodyPost_ret (v := .tuple #[.agg #[.int .i64 0, .slice none 0 0], .int .i64 8]) (by simp [results, Try.results9, go_sem, y0, y1]) rfl (Gv.bad EB (by omega) HG.out)

set_option maxRecDepth 100000 in
set_option maxHeartbeats 4000000 in
theorem drop_any (n k : Int) (sv : Value) (ts : List Int) (w : World) (hI : law.Ints w.heap.size w sv ts) (hm : ts.length ≤ 1000000) (htop : Tops ts) :
    Calls Try.prog 11 #[.agg #[.int .i64 n, sv], .int .i64 k] w (Gv (DropR n ts k) w) := by
  obtain ⟨DB, D0, DP, D1⟩ := boxP n sv (.int .i64 k) 3 w
  have HI := Lib.hid hI
  have HT := Lib.hid htop
  have HMM := Lib.hid hm
  have C := Lib.hid (check4_any n sv ts _ ((hI.below DB).mono DB.size) hm htop)
  clear hI hm htop
  by_cases hmay : MayD n ts
  · have e0 : chkD n ts = 0 := if_pos hmay
    rw [e0] at C
    obtain ⟨m, rfl, h0, hn, hl⟩ := may_nat hmay
    have HM := Lib.hid hmay
    have HL := Lib.hid hl
    clear hmay e0 hl
    by_cases hk : Kc m k
    · obtain ⟨k1, k2⟩ := hk
      obtain ⟨q, rfl⟩ : ∃ q : Nat, k = q := ⟨k.toNat, by omega⟩
      have t1 : ¬ (q : Int) < 1 := by omega
      have t2 : ¬ (m : Int) ≤ (q : Int) := by omega
      have HKC : RowKit.Hid (Kc m q) := Lib.hid ⟨k1, k2⟩
      go_enter Try.func11, Try.ntmps11
      go_wp2_with fail
      generalize ((w.alloc (.cells #[.int .i64 m, sv] 24)).alloc (.cells #[.int .i64 q] 3)).alloc (.cells #[.int .i64 0, .slice none 0 0] 24) = w0 at D0 D1 DP DB C ⊢
      refine C.out.mono ?_
      rintro e w1 ⟨rfl, hB⟩
      have E0 := lies.on_call D0 hB
      have E1 := lies.on_call D1 hB
      have EP := lies.on_call DP hB
      have EB := DB.trans (hB.mono DB.size)
      clear D0 D1 DP DB hB C
      obtain ⟨x0, x1, x2, x3, x4⟩ := lies.two E0
      obtain ⟨p0, p1, p2⟩ := dbm.one EP
      go_wp2_with fail
      clear x0 x1 x2 x3 x4 p0 p1 p2
      refine (close_g m sv ts w1 ((HI.out.below EB).mono EB.size) HMM.out HT.out).mono ?_
      rintro e w2 ⟨hB, na, aa, la, ca, us, f, rfl, hA, hK⟩
      replace E0 := lies.on_alloc (lies.on_call E0 hB) (.cells #[.int .i64 na, .slice aa la ca] 24)
      replace E1 := lies.on_alloc (lies.on_call E1 hB) (.cells #[.int .i64 na, .slice aa la ca] 24)
      replace EP := lies.on_alloc (lies.on_call EP hB) (.cells #[.int .i64 na, .slice aa la ca] 24)
      replace EB := lies.frame_up (EB.trans (hB.mono EB.size)) (.cells #[.int .i64 na, .slice aa la ca] 24)
      replace hK := hK.below (bound.up1 w2 (.cells #[.int .i64 na, .slice aa la ca] 24))
      have EC := lies.made w2 24 #[.int .i64 na, .slice aa la ca]
      clear hB
      rcases hA with ⟨hno, rfl, rfl, hf⟩ | ⟨hok, rfl, rfl, rfl⟩
      · obtain rfl : f = 6 := by rw [hf, if_pos HM.out]
        have HG : RowKit.Hid (DropR m ts q 0 [] 6) := Lib.hid (.inr (.inr (.inl ⟨HM.out, HKC.out, hno, rfl, rfl, rfl⟩)))
        clear hno hf hK EC E0 EP
        obtain ⟨y0, y1, y2, y3, y4⟩ := lies.two E1
        go_wp2_with fail
        exact bodyPost_ret (v := .tuple #[.agg #[.int .i64 0, .slice none 0 0], .int .i64 6]) (by simp [results, Try.results11, go_sem, y0, y1]) rfl (Gv.bad EB (by omega) HG.out)
      · have hlen : (clT (m : Int) ts).length = m * m := (clT_length hok).trans HL.out
        obtain ⟨g, rfl, rfl, hG⟩ : ∃ g, aa = some ⟨g, 0, none⟩ ∧ la = m * m ∧ lies.Lies (w2.alloc (.cells #[.int .i64 m, .slice aa la ca] 24)) g 29 (cellsOf (clT (m : Int) ts)) := by
          rcases hK with ⟨_, _, _, k⟩ | ⟨g, h1, h2, h3, h4⟩
          · have := Nat.mul_pos h0 h0
            rw [k] at hlen; simp at hlen; omega
          · exact ⟨g, h2, h3.trans hlen, h4⟩
        have HG : RowKit.Hid (DropR m ts q ((m - 1 : Nat) : Int) (dropT m q ts) 0) := Lib.hid (.inr (.inr (.inr ⟨hok, HKC.out, rfl, rfl, rfl⟩)))
        have HLE := Lib.hid hlen
        have HRG := Lib.hid (row_of hG)
        have hgl := lies.lt hG
        have z1 : wrap64 ((m : Int) - 1) = ((m - 1 : Nat) : Int) := by rw [IntWalk.wrap64_in _ ⟨by omega, by omega⟩]; omega
        have z2 : IntKind.i64.wrap ((m : Int) - 1) = ((m - 1 : Nat) : Int) := by rw [IntWalk.i64_in _ ⟨by omega, by omega⟩]; omega
        clear hok hlen hK hG
        obtain ⟨x0, x1, x2, x3, x4⟩ := lies.two E0
        obtain ⟨c0, c1, c2, c3, c4⟩ := lies.two EC
        go_wp2_with fail
        clear x0 x1 x2 x3 x4 c0 c1 c2 c3 c4 z1 z2
        generalize w2.alloc (.cells #[.int .i64 m, .slice (some ⟨g, 0, none⟩) (m * m) ca] 24) = w3 at E0 E1 EP EB EC HRG hgl ⊢
        refine (laidD_is (w.heap.size + 1) m (m - 1) g 0 ca (sk q) (clT (m : Int) ts) w3 hn (by omega) (by omega) HRG.out hgl HLE.out (fun i hi => by have := sk_lt (k := q) hi; omega) (fun i hi W hW => was_drop (w.heap.size + 1) q i W (by omega) (lies.on_call EP hW))).mono ?_
        rintro e w4 ⟨hB2, g', hg', rfl, hG'⟩
        have F1 := lies.on_call E1 hB2
        have FB := EB.trans (hB2.mono EB.size)
        have hlt := lies.lt E1
        clear E0 E1 EP EB EC hB2
        obtain ⟨y0, y1, y2, y3, y4⟩ := lies.two F1
        go_wp2_with fail
        exact bodyPost_ret (v := .tuple #[.agg #[.int .i64 ((m - 1 : Nat) : Int), .slice (some ⟨g', 0, none⟩) ((m - 1) * (m - 1)) ((m - 1) * (m - 1))], .int .i64 0]) (by simp [results, Try.results11, go_sem, y0, y1]) rfl (Gv.yes FB (by omega) (by omega) hG' (laidT_length _ _ _ _) HG.out)
    · have HG : RowKit.Hid (DropR m ts k 0 [] 2) := Lib.hid (.inr (.inl ⟨HM.out, hk, rfl, rfl, rfl⟩))
      by_cases k1 : k < 1
      · clear hk
        go_enter Try.func11, Try.ntmps11
        go_wp2_with fail
        generalize ((w.alloc (.cells #[.int .i64 m, sv] 24)).alloc (.cells #[.int .i64 k] 3)).alloc (.cells #[.int .i64 0, .slice none 0 0] 24) = w0 at D0 D1 DP DB C ⊢
        refine C.out.mono ?_
        rintro e w1 ⟨rfl, hB⟩
        have E0 := lies.on_call D0 hB
        have E1 := lies.on_call D1 hB
        have EP := lies.on_call DP hB
        have EB := DB.trans (hB.mono DB.size)
        clear D0 D1 DP DB hB C
        obtain ⟨x0, x1, x2, x3, x4⟩ := lies.two E0
        obtain ⟨y0, y1, y2, y3, y4⟩ := lies.two E1
        obtain ⟨p0, p1, p2⟩ := dbm.one EP
        go_wp2_with fail
        exact bodyPost_ret (v := .tuple #[.agg #[.int .i64 0, .slice none 0 0], .int .i64 2]) (by simp [results, Try.results11, go_sem, y0, y1]) rfl (Gv.bad EB (by omega) HG.out)
      · have k2 : (m : Int) ≤ k := Decidable.byContradiction fun h => hk ⟨by omega, by omega⟩
        clear hk
        go_enter Try.func11, Try.ntmps11
        go_wp2_with fail
        generalize ((w.alloc (.cells #[.int .i64 m, sv] 24)).alloc (.cells #[.int .i64 k] 3)).alloc (.cells #[.int .i64 0, .slice none 0 0] 24) = w0 at D0 D1 DP DB C ⊢
        refine C.out.mono ?_
        rintro e w1 ⟨rfl, hB⟩
        have E0 := lies.on_call D0 hB
        have E1 := lies.on_call D1 hB
        have EP := lies.on_call DP hB
        have EB := DB.trans (hB.mono DB.size)
        clear D0 D1 DP DB hB C
        obtain ⟨x0, x1, x2, x3, x4⟩ := lies.two E0
        obtain ⟨y0, y1, y2, y3, y4⟩ := lies.two E1
        obtain ⟨p0, p1, p2⟩ := dbm.one EP
        go_wp2_with fail
        exact bodyPost_ret (v := .tuple #[.agg #[.int .i64 0, .slice none 0 0], .int .i64 2]) (by simp [results, Try.results11, go_sem, y0, y1]) rfl (Gv.bad EB (by omega) HG.out)
  · have e0 : chkD n ts = 8 := if_neg hmay
    rw [e0] at C
    have HG : RowKit.Hid (DropR n ts k 0 [] 8) := Lib.hid (.inl ⟨hmay, rfl, rfl, rfl⟩)
    clear hmay e0
    go_enter Try.func11, Try.ntmps11
    go_wp2_with fail
    generalize ((w.alloc (.cells #[.int .i64 n, sv] 24)).alloc (.cells #[.int .i64 k] 3)).alloc (.cells #[.int .i64 0, .slice none 0 0] 24) = w0 at D0 D1 DP DB C ⊢
    refine C.out.mono ?_
    rintro e w1 ⟨rfl, hB⟩
    have E1 := lies.on_call D1 hB
    have EB := DB.trans (hB.mono DB.size)
    clear D0 D1 DP DB hB C
    obtain ⟨y0, y1, y2, y3, y4⟩ := lies.two E1
    go_wp2_with fail
    exact bodyPost_ret (v := .tuple #[.agg #[.int .i64 0, .slice none 0 0], .int .i64 8]) (by simp [results, Try.results11, go_sem, y0, y1]) rfl (Gv.bad EB (by omega) HG.out)
end Go.Proofs.Ytikjkmhnimpbhaa.proj
