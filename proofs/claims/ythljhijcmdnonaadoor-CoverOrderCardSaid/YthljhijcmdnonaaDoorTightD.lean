/-
  What the laws of layer 5 share: calls at told matrices, boxes, a span that comes in, times that keep a matrix with bounds more; each theorem names its conditions.
-/
import Derived.Test.YthljhijcmdnonaaDoorTightB
import Derived.Lib.SmallJoins
import Derived.Test.YthljhijcmdnonaaDoorDbmD
import Derived.Test.YthljhijcmdnonaaDoorRatC
namespace Go.Proofs.YthljhijcmdnonaaDoor.tlaw
open Go.Joins Go.ChangeShapes Go.WideShapes Go.ChangeAt Go.RowKit num dbm Go.Proofs.YthljhijcmdnonaaDoor.tight
open bound hiding up
set_option linter.unusedVariables false
set_option linter.unusedSimpArgs false

/-- is a matrix not empty? told by reckoning. -/
def okB (m : Nat) (h0 : 0 < m) (ts : List Int) : Bool := decide (MayD m ts) && (List.range (m + 1)).all (fun k => (List.range m).all fun i => decide (1 ≤ tat (tabs m h0 ts k) m i i))
theorem okB_iff {m : Nat} (h0 : 0 < m) (ts : List Int) : okB m h0 ts = true ↔ OkD m ts := by
  unfold okB OkD emp
  simp only [Bool.and_eq_true, decide_eq_true_eq, List.all_eq_true, List.mem_range, Int.toNat_natCast]
  constructor
  · rintro ⟨h, k⟩
    exact ⟨h, h0, fun q hq ⟨i, hi, hl⟩ => by have := k q (by omega) i hi; omega⟩
  · rintro ⟨h, h0', k⟩
    refine ⟨h, fun q hq i hi => ?_⟩
    refine Decidable.byContradiction fun hl => k q (by omega) ⟨i, hi, by omega⟩
theorem tells_yes {n : Int} {ts us : List Int} {err : Int} {w w' : World} {e : Ending} (h : Tells n (some ts) err w e w') (hok : OkD n ts) (hc : clT n ts = us) :
    Below w.heap.size w w' ∧ ∃ aa la ca, e = .returned (.tuple #[.agg #[.int .i64 n, .slice aa la ca], .int .i64 0]) ∧ Blk w.heap.size w' aa la ca us := by
  obtain ⟨hB, na, aa, la, ca, vs, f, rfl, hR, hK⟩ := h
  rcases hR with ⟨h, _⟩ | ⟨_, h, hA⟩
  · cases h
  · cases h
    rcases hA with ⟨h, _⟩ | ⟨_, rfl, rfl, rfl⟩
    · exact (h hok).elim
    · rw [hc] at hK
      exact ⟨hB, aa, la, ca, rfl, hK⟩
theorem tells_no {n : Int} {ts : List Int} {err : Int} {w w' : World} {e : Ending} (h : Tells n (some ts) err w e w') (hm : MayD n ts) (hok : ¬ OkD n ts) :
    Below w.heap.size w w' ∧ ∃ na aa la ca us, e = .returned (.tuple #[.agg #[.int .i64 na, .slice aa la ca], .int .i64 6]) ∧ Blk w.heap.size w' aa la ca us := by
  obtain ⟨hB, na, aa, la, ca, vs, f, rfl, hR, hK⟩ := h
  rcases hR with ⟨h, _⟩ | ⟨_, h, hA⟩
  · cases h
  · cases h
    rcases hA with ⟨_, rfl, rfl, rfl⟩ | ⟨h, _⟩
    · rw [if_pos hm]
      exact ⟨hB, _, aa, la, ca, _, rfl, hK⟩
    · exact (hok h).elim
theorem tells_err {n err : Int} {w w' : World} {e : Ending} (h : Tells n none err w e w') :
    Below w.heap.size w w' ∧ ∃ na aa la ca us, e = .returned (.tuple #[.agg #[.int .i64 na, .slice aa la ca], .int .i64 err]) ∧ Blk w.heap.size w' aa la ca us := by
  obtain ⟨hB, na, aa, la, ca, vs, f, rfl, hR, hK⟩ := h
  rcases hR with ⟨_, rfl, rfl, rfl⟩ | ⟨_, h, hA⟩
  · exact ⟨hB, _, aa, la, ca, _, rfl, hK⟩
  · cases h

/-- the calls of the examples. -/
theorem ok_cl {m : Nat} (h0 : 0 < m) {ts us : List Int} (h : okB m h0 ts = true) (k : tabs m h0 ts m = us) : OkD m ts ∧ clT m ts = us := ⟨(okB_iff h0 ts).1 h, (clT_nat h0 ts).trans k⟩
theorem btw_yes (g : Nat) (w : World) (hg : lies.Lies w g 29 (cellsOf [1, 9223372036854775807, 9223372036854775807, 1])) :
    Calls Tryd.prog 77 #[.agg #[.int .i64 2, .slice (some ⟨g, 0, none⟩) 4 4], .int .i64 1, .agg #[.int .i64 2, .bool false, .int .i64 4, .bool true, .bool false]] w fun e w' => Below w.heap.size w w' ∧ ∃ aa la ca, e = .returned (.tuple #[.agg #[.int .i64 2, .slice aa la ca], .int .i64 0]) ∧ Blk w.heap.size w' aa la ca [1, -3, 8, 1] := by
  refine (btw_any 2 1 2 4 false true false _ [1, 9223372036854775807, 9223372036854775807, 1] w (dlaw.own_ints (cap := 4) hg) (by decide) (by unfold Tops; decide)).mono fun e w' h => ?_
  have e1 : btwQ 2 [1, 9223372036854775807, 9223372036854775807, 1] 1 2 false 4 true false = some [1, -3, 8, 1] := by decide +kernel
  rw [e1] at h
  have := ok_cl (m := 2) (by decide) (ts := [1, -3, 8, 1]) (us := [1, -3, 8, 1]) (by decide +kernel) (by decide +kernel)
  exact tells_yes h this.1 this.2
theorem close_yes (g : Nat) (w : World) (hg : lies.Lies w g 29 (cellsOf [1, 9223372036854775807, 9223372036854775807, 1])) :
    Calls Tryd.prog 34 #[.agg #[.int .i64 2, .slice (some ⟨g, 0, none⟩) 4 4]] w fun e w' => Below w.heap.size w w' ∧ ∃ aa la ca, e = .returned (.tuple #[.agg #[.int .i64 2, .slice aa la ca], .int .i64 0]) ∧ Blk w.heap.size w' aa la ca [1, 9223372036854775807, 9223372036854775807, 1] := by
  refine (close_g 2 _ [1, 9223372036854775807, 9223372036854775807, 1] w (dlaw.own_ints (cap := 4) hg) (by decide) (by unfold Tops; decide)).mono fun e w' h => ?_
  have := ok_cl (m := 2) (by decide) (ts := [1, 9223372036854775807, 9223372036854775807, 1]) (us := [1, 9223372036854775807, 9223372036854775807, 1]) (by decide +kernel) (by decide +kernel)
  obtain ⟨hB, na, aa, la, ca, us, f, rfl, hA, hK⟩ := h
  exact tells_yes (err := 8) ⟨hB, na, aa, la, ca, us, f, rfl, .inr ⟨_, rfl, hA⟩, hK⟩ this.1 this.2

/-- matrices in boxes: where the box lies, clocks, list, bounds. -/
abbrev Bx := Nat × Int × Value × List Int
/-- what lies there in a law: boxes, and nothing of the start has turned. -/
def St (bs : List Bx) (w W : World) : Prop := Below w.heap.size w W ∧ ∀ b ∈ bs, lies.Lies W b.1 58 #[.int .i64 b.2.1, b.2.2.1] ∧ law.Ints W.heap.size W b.2.2.1 b.2.2.2
theorem St.below {bs : List Bx} {w W X : World} (h : St bs w W) (k : Below W.heap.size W X) : St bs w X :=
  ⟨h.1.trans (k.mono h.1.size), fun b hb => ⟨lies.on_call (h.2 b hb).1 k, ((h.2 b hb).2.below k).mono k.size⟩⟩
theorem St.alloc {bs : List Bx} {w W : World} (h : St bs w W) (o : Obj) : St bs w (W.alloc o) := h.below ((Below.refl _ W).alloc (Nat.le_refl _) o)
theorem St.drew {bs : List Bx} {w W : World} (h : St bs w W) : St bs w W.drew := h.below (dbm.drawn1 (Below.refl _ _))
theorem St.add {bs : List Bx} {w W : World} (h : St bs w W) (n : Int) (sv : Value) (ts : List Int) (hI : law.Ints W.heap.size W sv ts) : St ((W.heap.size, n, sv, ts) :: bs) w (W.alloc (.cells #[.int .i64 n, sv] 58)) := by
  have k : Below W.heap.size W (W.alloc (.cells #[.int .i64 n, sv] 58)) := (Below.refl _ W).alloc (Nat.le_refl _) _
  refine ⟨(h.below k).1, fun b hb => ?_⟩
  rcases List.mem_cons.1 hb with rfl | hb
  · exact ⟨lies.made _ _ _, (hI.below k).mono k.size⟩
  · exact (h.below k).2 b hb
theorem St.start (w : World) : St [] w w := ⟨Below.refl _ _, fun b hb => absurd hb (by simp)⟩
theorem St.sub {bs cs : List Bx} {w W : World} (h : St bs w W) (k : ∀ b ∈ cs, b ∈ bs) : St cs w W := ⟨h.1, fun b hb => h.2 b (k b hb)⟩
theorem St.head {x : Nat} {n : Int} {sv : Value} {ts : List Int} {bs : List Bx} {w W : World} (h : St ((x, n, sv, ts) :: bs) w W) : lies.Lies W x 58 #[.int .i64 n, sv] ∧ law.Ints W.heap.size W sv ts := h.2 _ List.mem_cons_self
theorem St.tail {x : Bx} {bs : List Bx} {w W : World} (h : St (x :: bs) w W) : St bs w W := h.sub fun b hb => List.mem_cons_of_mem _ hb

end Go.Proofs.YthljhijcmdnonaaDoor.tlaw

namespace Go.Proofs.YthljhijcmdnonaaDoor.tlaw
open Go.Joins Go.Deep Go.ChangeShapes Go.WideShapes Go.ChangeAt Go.RowKit num dbm Go.Proofs.YthljhijcmdnonaaDoor.tight
open bound hiding up
set_option linter.unusedVariables false
set_option linter.unusedSimpArgs false

theorem array5 {α : Type} {cs : Array α} (h : cs.size = 5) : ∃ c0 c1 c2 c3 c4, cs = #[c0, c1, c2, c3, c4] := by
  obtain ⟨l⟩ := cs
  match l, h with
  | [c0, c1, c2, c3, c4], _ => exact ⟨c0, c1, c2, c3, c4, rfl⟩
section
variable {H : Type} {enc : TypeId × Value → H} {P : Program} {w : World} {base : Nat} {spare : Nat → Bool} {held : Bool}
theorem trod_struct5 {t : TypeId} {f0 f1 f2 f3 f4 : Field} {fuel : Nat} {cs : List Value} {x : DataW H × List MemPlace} (ht : P.underlying t = some (.struct #[f0, f1, f2, f3, f4])) (h : DataW.trod enc P w base spare held fuel t cs = some x) :
    ∃ y0 y1 y2 y3 y4 n, DataW.trod enc P w base spare held n f0.type ((cs.drop f0.offset).take (P.cellsOf f0.type)) = some y0 ∧
      DataW.trod enc P w base spare held n f1.type ((cs.drop f1.offset).take (P.cellsOf f1.type)) = some y1 ∧ DataW.trod enc P w base spare held n f2.type ((cs.drop f2.offset).take (P.cellsOf f2.type)) = some y2 ∧
      DataW.trod enc P w base spare held n f3.type ((cs.drop f3.offset).take (P.cellsOf f3.type)) = some y3 ∧ DataW.trod enc P w base spare held n f4.type ((cs.drop f4.offset).take (P.cellsOf f4.type)) = some y4 := by
  obtain ⟨xs, n, _, rfl, hl, hlen, hf⟩ := DataW.trod_struct ht h
  match xs, hlen with
  | [y0, y1, y2, y3, y4], _ => exact ⟨y0, y1, y2, y3, y4, n, by simpa using hf 0 f0 rfl, by simpa using hf 1 f1 rfl, by simpa using hf 2 f2 rfl, by simpa using hf 3 f3 rfl, by simpa using hf 4 f4 rfl⟩
theorem open_agg5 {r : Reach} {b0 : Nat} {t : TypeId} {f0 f1 f2 f3 f4 : Field} {v : Value} {d : DataW H} {p : List MemPlace} (hs : P.underlying t = some (.struct #[f0, f1, f2, f3, f4])) (hone : oneCellFields P #[f0, f1, f2, f3, f4] = true) (hC : P.cellsOf t = 5)
    (hv : Value.okWide P w r b0 t v) (h : DataW.Trod enc P w base spare held t v d p) :
    ∃ (v0 v1 v2 v3 v4 : Value) (y0 y1 y2 y3 y4 : DataW H × List MemPlace) (n : Nat), v = .agg #[v0, v1, v2, v3, v4] ∧
      DataW.trod enc P w base spare held n f0.type [v0] = some y0 ∧ DataW.trod enc P w base spare held n f1.type [v1] = some y1 ∧ DataW.trod enc P w base spare held n f2.type [v2] = some y2 ∧ DataW.trod enc P w base spare held n f3.type [v3] = some y3 ∧ DataW.trod enc P w base spare held n f4.type [v4] = some y4 := by
  obtain ⟨cs, rfl, hsz⟩ := okWide_struct hs hv
  obtain ⟨c0, c1, c2, c3, c4, rfl⟩ := array5 (hsz.trans hC)
  obtain ⟨fuel, hf⟩ := h
  obtain ⟨y0, y1, y2, y3, y4, n, h0, h1, h2, h3, h4⟩ := trod_struct5 hs hf
  obtain ⟨o0, k0⟩ := hone_of hone 0 f0 rfl
  obtain ⟨o1, k1⟩ := hone_of hone 1 f1 rfl
  obtain ⟨o2, k2⟩ := hone_of hone 2 f2 rfl
  obtain ⟨o3, k3⟩ := hone_of hone 3 f3 rfl
  obtain ⟨o4, k4⟩ := hone_of hone 4 f4 rfl
  exact ⟨c0, c1, c2, c3, c4, y0, y1, y2, y3, y4, n, rfl, by simpa [Value.cells, o0, k0] using h0, by simpa [Value.cells, o1, k1] using h1, by simpa [Value.cells, o2, k2] using h2, by simpa [Value.cells, o3, k3] using h3, by simpa [Value.cells, o4, k4] using h4⟩
end

set_option maxRecDepth 100000 in
/-- a span by value. -/
theorem open_span {H : Type} {enc : TypeId × Value → H} {W : World} {v : Value} {d : DataW H} {p : List MemPlace} {base : Nat}
    (hok : Value.okWide Tryd.prog W .any base 63 v) (h : DataW.Trod enc Tryd.prog W 0 (fun _ => true) true 63 v d p) :
    ∃ (lo : Int) (ls : Bool) (hi : Int) (hs op : Bool), v = .agg #[.int .i64 lo, .bool ls, .int .i64 hi, .bool hs, .bool op] := by
  obtain ⟨v0, v1, v2, v3, v4, y0, y1, y2, y3, y4, k, rfl, h0, h1, h2, h3, h4⟩ := open_agg5 Tryd.underlying63 (by kernel_rfl) (by kernel_rfl) hok h
  obtain ⟨a, ha, _⟩ := DataW.trod_int Tryd.underlying3 h0
  obtain ⟨b, hb, _⟩ := DataW.trod_bool Tryd.underlying4 h1
  obtain ⟨c, hc, _⟩ := DataW.trod_int Tryd.underlying3 h2
  obtain ⟨d', hd, _⟩ := DataW.trod_bool Tryd.underlying4 h3
  obtain ⟨e, he, _⟩ := DataW.trod_bool Tryd.underlying4 h4
  simp only [List.cons.injEq, and_true] at ha hb hc hd he
  subst ha hb hc hd he
  exact ⟨a, b, c, d', e, rfl⟩

theorem Ans.one {n : Int} {ts : List Int} {na nb : Int} {us vs : List Int} {f g : Int} (h : Ans n ts na us f) (k : Ans n ts nb vs g) : nb = na ∧ vs = us ∧ g = f := by
  rcases h with ⟨h, rfl, rfl, rfl⟩ | ⟨h, rfl, rfl, rfl⟩ <;> rcases k with ⟨k, rfl, rfl, rfl⟩ | ⟨k, rfl, rfl, rfl⟩
  · exact ⟨rfl, rfl, rfl⟩
  · exact (h k).elim
  · exact (k h).elim
  · exact ⟨rfl, rfl, rfl⟩
theorem Res.one {n : Int} {q : Option (List Int)} {err na nb : Int} {us vs : List Int} {f g : Int} (h : Res n q err na us f) (k : Res n q err nb vs g) : nb = na ∧ vs = us ∧ g = f := by
  rcases h with ⟨h0, rfl, rfl, rfl⟩ | ⟨ts, h0, h⟩ <;> rcases k with ⟨k0, rfl, rfl, rfl⟩ | ⟨us', k0, k⟩
  · exact ⟨rfl, rfl, rfl⟩
  · rw [h0] at k0; cases k0
  · rw [h0] at k0; cases k0
  · rw [h0] at k0; cases k0; exact Ans.one h k
theorem Ans.len {n : Int} {ts : List Int} {na : Int} {us : List Int} {f : Int} (h : Ans n ts na us f) : us.length ≤ ts.length := by
  rcases h with ⟨h, rfl, rfl, rfl⟩ | ⟨h, rfl, rfl, rfl⟩
  · simp
  · rw [clT_length h]; exact Nat.le_refl _
end Go.Proofs.YthljhijcmdnonaaDoor.tlaw

namespace Go.Proofs.YthljhijcmdnonaaDoor.tkept
open num dbm rat Go.Proofs.YthljhijcmdnonaaDoor.tight
open bound hiding up
set_option linter.unusedVariables false

theorem kpV_lsr {a b c d u v : Int} (h : MayR a b) (h' : MayR c d) (hu : Fine u) (hv : Fine v) : kpV a b c d (lsr u v) = true ↔ kpV a b c d u = true ∧ kpV a b c d v = true := by
  rw [kp_kB h h' (lsr_fine hu hv), kp_kB h h' hu, kp_kB h h' hv]
  have hb : 0 < b := by have := h.1; omega
  have hd : 0 < d := by have := h'.1; omega
  have hl := lsr_le u v
  have tu : u ≤ 9223372036854775807 := by rcases hu with h | h <;> omega
  have tv : v ≤ 9223372036854775807 := by rcases hv with h | h <;> omega
  constructor
  · rintro (k | k)
    · exact ⟨.inl (by omega), .inl (by omega)⟩
    · exact ⟨.inr (keptR_up hb hd k hl.1), .inr (keptR_up hb hd k hl.2)⟩
  · rintro ⟨k1, k2⟩
    rcases lsr_is u v with e | e <;> rw [e] <;> assumption
theorem kept_les {n : Nat} {ts us : List Int} {qs : List (Int × Int)} (hn : n ≤ 4) (hl : ts.length = n * n) (hu : us.length = n * n) (ht : MayD n ts) (hm : MayD n us) (hq : MayT qs) (hqn : qs.length = n) :
    keptAll n (lesT ts us) qs ↔ keptAll n ts qs ∧ keptAll n us qs := by
  have key : ∀ i j, i < n → j < n → (kp n (lesT ts us) qs i j = true ↔ kp n ts qs i j = true ∧ kp n us qs i j = true) := fun i j hi hj => by
    have e : tat (lesT ts us) n i j = lsr (tat ts n i j) (tat us n i j) := lesT_at _ _ (by rw [hl]; exact place_le hn hi hj)
    unfold kp
    rw [e]
    exact kpV_lsr (hq i (by omega)) (hq j (by omega)) (fine_at hl hn ht.2.2.2 hi hj) (fine_at hu hn hm.2.2.2 hi hj)
  exact ⟨fun h => ⟨fun i j hi hj => ((key i j hi hj).1 (h i j hi hj)).1, fun i j hi hj => ((key i j hi hj).1 (h i j hi hj)).2⟩, fun h i j hi hj => (key i j hi hj).2 ⟨h.1 i j hi hj, h.2 i j hi hj⟩⟩
theorem kept_set {n i j : Nat} {x : Int} {ts : List Int} {qs : List (Int × Int)} (hn : n ≤ 4) (hl : ts.length = n * n) (ht : MayD n ts) (hx : Fine x) (hq : MayT qs) (hqn : qs.length = n) (hi : i < n) (hj : j < n) :
    keptAll n (setT ts (i * n + j) x) qs ↔ keptAll n ts qs ∧ kpV (pr qs i).1 (pr qs i).2 (pr qs j).1 (pr qs j).2 x = true := by
  have key : ∀ a b, a < n → b < n → (kp n (setT ts (i * n + j) x) qs a b = true ↔ kp n ts qs a b = true ∧ (i = a ∧ j = b → kpV (pr qs a).1 (pr qs a).2 (pr qs b).1 (pr qs b).2 x = true)) := fun a b ha hb => by
    have e : tat (setT ts (i * n + j) x) n a b = if i * n + j = a * n + b then lsr (tat ts n a b) x else tat ts n a b := setT_at _ _ (by rw [hl]; exact place_le hn ha hb)
    unfold kp
    rw [e]
    by_cases p : i * n + j = a * n + b
    · obtain ⟨rfl, rfl⟩ := place_inj hj hb p
      rw [if_pos rfl, kpV_lsr (hq i (by omega)) (hq j (by omega)) (fine_at hl hn ht.2.2.2 hi hj) hx]
      exact ⟨fun h => ⟨h.1, fun _ => h.2⟩, fun h => ⟨h.1, h.2 ⟨rfl, rfl⟩⟩⟩
    · rw [if_neg p]
      exact ⟨fun h => ⟨h, fun k => absurd (by rw [k.1, k.2]) p⟩, fun h => h.1⟩
  refine ⟨fun h => ⟨fun a b ha hb => ((key a b ha hb).1 (h a b ha hb)).1, ((key i j hi hj).1 (h i j hi hj)).2 ⟨rfl, rfl⟩⟩, fun h a b ha hb => (key a b ha hb).2 ⟨h.1 a b ha hb, ?_⟩⟩
  rintro ⟨rfl, rfl⟩
  exact h.2
/-- of what is closed. -/
theorem kept_cl {n : Nat} {L : List Int} {qs : List (Int × Int)} (h0 : 0 < n) (hn : n ≤ 4) (hl : L.length = n * n) (htop : Tops L) (hok : OkD n L) (hc : MayD n (clT n L)) (hq : MayT qs) (hqn : qs.length = n) : keptAll n (clT n L) qs ↔ keptAll n L qs := by
  have hC : clT n L = tabs n h0 L n := clT_nat h0 L
  rw [hC] at hc ⊢
  have hlc : (tabs n h0 L n).length = n * n := (tabs_length _ _ _ _).trans hl
  exact (kept_same h0 hn hl htop hok.1.2.2.2 hq hqn (fun k hk => hok.2.2 k (by simpa using hk)) (fun i j hi hj => fine_at hlc hn hc.2.2.2 hi hj)).symm
/-- an empty one is kept by none. -/
theorem kept_no {n : Nat} {L : List Int} {qs : List (Int × Int)} (h0 : 0 < n) (hn : n ≤ 4) (hl : L.length = n * n) (htop : Tops L) (hm : MayD n L) (hok : ¬ OkD n L) (hq : MayT qs) (hqn : qs.length = n) : ¬ keptAll n L qs := fun h => by
  have := kept_closed h0 hn hl htop hm.2.2.2 hq hqn h
  exact hok ⟨hm, by simpa using h0, fun k hk => this k (by simpa using hk)⟩

/-- what the answers of a matrix with more bounds mean for times that are held against it. -/
theorem kept_ans {n : Nat} {L : List Int} {qs : List (Int × Int)} {na f : Int} {us : List Int} (h0 : 0 < n) (hn : n ≤ 4) (hl : L.length = n * n) (htop : Tops L) (hm : MayD n L) (hq : MayT qs) (hqn : qs.length = n) (h : Ans n L na us f) :
    (f = 6 ∧ ¬ keptAll n L qs) ∨ (f = 0 ∧ na = n ∧ us.length = n * n ∧ Tops us ∧ (MayD n us → (keptAll n us qs ↔ keptAll n L qs))) := by
  rcases h with ⟨hno, rfl, rfl, rfl⟩ | ⟨hok, rfl, rfl, rfl⟩
  · exact .inl ⟨if_pos hm, kept_no h0 hn hl htop hm hno hq hqn⟩
  · exact .inr ⟨rfl, rfl, (clT_length hok).trans hl, clT_tops htop, fun hc => kept_cl h0 hn hl htop hok hc hq hqn⟩
end Go.Proofs.YthljhijcmdnonaaDoor.tkept

namespace Go.Proofs.YthljhijcmdnonaaDoor.tkept
open num dbm rat Go.Proofs.YthljhijcmdnonaaDoor.tight
open bound hiding up
set_option linter.unusedVariables false

/-- is a time above a span's low end? .. below its high one? -/
def inl (lo : Int) (ls : Bool) (a b : Int) : Bool := if ls then decide (lo * b < a) else decide (lo * b ≤ a)
def inh (hi : Int) (hs : Bool) (a b : Int) : Bool := if hs then decide (a < hi * b) else decide (a ≤ hi * b)
theorem mk_not {c : Int} (h : In c) (s : Bool) : mk c s ≠ 9223372036854775807 := by
  have := mk_half c s
  unfold In at h
  omega
theorem mk_fine2 {c : Int} (h : In c) (s : Bool) : Fine (mk c s) := .inr (by rw [mk_half]; exact h)
theorem zero_may : MayR 0 1 := ⟨by decide, by decide, by decide, by decide, by decide⟩
theorem kp_low {lo a b : Int} (h : In lo) (ls : Bool) (hm : MayR a b) : kpV 0 1 a b (mk (-lo) ls) = true ↔ inl lo ls a b = true := by
  have hn : In (-lo) := by unfold In at h ⊢; omega
  have e1 : (0 : Int) * b - a * 1 = -a := by simp
  have e2 : -lo * (1 * b) = -(lo * b) := by rw [Int.one_mul, Int.neg_mul]
  rw [kp_kB zero_may hm (mk_fine2 hn ls)]
  constructor
  · rintro (k | k)
    · exact (mk_not hn ls k).elim
    · unfold inl
      cases ls with
      | true =>
        rw [keptR_lt (mk_strict _ _), mk_half, e1, e2] at k
        simp; omega
      | false =>
        rw [keptR_ge (by rw [mk_strict]; decide), mk_half, e1, e2] at k
        simp; omega
  · intro k
    refine .inr ?_
    unfold inl at k
    cases ls with
    | true =>
      rw [keptR_lt (mk_strict _ _), mk_half, e1, e2]
      simp at k; omega
    | false =>
      rw [keptR_ge (by rw [mk_strict]; decide), mk_half, e1, e2]
      simp at k; omega
theorem kp_high {hi a b : Int} (hs op : Bool) (h : op = false → In hi) (hm : MayR a b) : kpV a b 0 1 (hiB hi hs op) = true ↔ (op || inh hi hs a b) = true := by
  cases op with
  | true =>
    have e : hiB hi hs true = 9223372036854775807 := rfl
    rw [e, kp_kB hm zero_may (.inl rfl)]
    exact ⟨fun _ => rfl, fun _ => .inl rfl⟩
  | false =>
    have hn := h rfl
    have e : hiB hi hs false = mk hi hs := rfl
    have e1 : a * 1 - (0 : Int) * b = a := by simp
    have e2 : hi * (b * 1) = hi * b := by rw [Int.mul_one]
    rw [e, kp_kB hm zero_may (mk_fine2 hn hs)]
    constructor
    · rintro (k | k)
      · exact (mk_not hn hs k).elim
      · unfold inh
        cases hs with
        | true =>
          rw [keptR_lt (mk_strict _ _), mk_half, e1, e2] at k
          simp; omega
        | false =>
          rw [keptR_ge (by rw [mk_strict]; decide), mk_half, e1, e2] at k
          simp; omega
    · intro k
      refine .inr ?_
      unfold inh at k
      cases hs with
      | true =>
        rw [keptR_lt (mk_strict _ _), mk_half, e1, e2]
        simp at k; omega
      | false =>
        rw [keptR_ge (by rw [mk_strict]; decide), mk_half, e1, e2]
        simp at k; omega
/-- times keep one with a clock in a span just if they keep it, and that time is in the span. -/
theorem kept_btw {n i : Nat} {lo hi : Int} {ls hs op : Bool} {ts : List Int} {qs : List (Int × Int)} (h0 : 0 < n) (hn : n ≤ 4) (hl : ts.length = n * n) (ht : MayD n ts) (hq : MayT qs) (hqn : qs.length = n) (hq0 : pr qs 0 = (0, 1)) (hi' : i < n) (hS : MayS lo hi hs op) :
    keptAll n (btwL n ts i lo ls hi hs op) qs ↔ keptAll n ts qs ∧ (inl lo ls (pr qs i).1 (pr qs i).2 && (op || inh hi hs (pr qs i).1 (pr qs i).2)) = true := by
  have hlo := hS.1
  have hhi : op = false → In hi := fun h => by
    rcases hS.2 with k | k
    · rw [h] at k; exact absurd k.1 (by decide)
    · exact k.2.1
  have hn' : In (-lo) := by unfold In at hlo ⊢; omega
  have hx : Fine (mk (-lo) ls) := mk_fine2 hn' ls
  have hy : Fine (hiB hi hs op) := by
    cases op with
    | true => exact .inl rfl
    | false => exact mk_fine2 (hhi rfl) hs
  show keptAll n (setT (setT ts (0 * n + i) (mk (-lo) ls)) (i * n + 0) (hiB hi hs op)) qs ↔ _
  rw [kept_set hn ((setT_length _ _ _).trans hl) (setT_may ht _ hx) hy hq hqn hi' h0, kept_set hn hl ht hx hq hqn h0 hi', hq0, kp_low hlo ls (hq i (by omega)), kp_high hs op hhi (hq i (by omega)), Bool.and_eq_true, and_assoc]

/-- what Cmp answers of the ends. -/
theorem cmp_low {lo a b : Int} (h : In lo) (ls : Bool) (hm : MayR a b) : cmpE lo 1 a b = 0 ∧ ((cmpV lo 1 a b = 1 ∧ inl lo ls a b = false) ∨ (cmpV lo 1 a b = -1 ∧ inl lo ls a b = true) ∨ (cmpV lo 1 a b = 0 ∧ inl lo ls a b = !ls)) := by
  have hb : Both lo 1 a b := ⟨whole_may (by unfold In at h; unfold May; omega), hm⟩
  obtain ⟨e1, e2⟩ := cmpV_is hb
  refine ⟨e2, ?_⟩
  rw [e1]
  have e3 : a * 1 = a := Int.mul_one a
  rw [e3]
  unfold inl
  rcases cmp0_cases (lo * b) a with ⟨k, e⟩ | ⟨k, e⟩ | ⟨k, e⟩
  · refine .inl ⟨e, ?_⟩
    cases ls <;> simp <;> omega
  · refine .inr (.inl ⟨e, ?_⟩)
    cases ls <;> simp <;> omega
  · refine .inr (.inr ⟨e, ?_⟩)
    cases ls <;> simp <;> omega
theorem cmp_high {hi a b : Int} (h : In hi) (hs : Bool) (hm : MayR a b) : cmpE a b hi 1 = 0 ∧ ((cmpV a b hi 1 = 1 ∧ inh hi hs a b = false) ∨ (cmpV a b hi 1 = -1 ∧ inh hi hs a b = true) ∨ (cmpV a b hi 1 = 0 ∧ inh hi hs a b = !hs)) := by
  have hb : Both a b hi 1 := ⟨hm, whole_may (by unfold In at h; unfold May; omega)⟩
  obtain ⟨e1, e2⟩ := cmpV_is hb
  refine ⟨e2, ?_⟩
  rw [e1]
  have e3 : a * 1 = a := Int.mul_one a
  rw [e3]
  unfold inh
  rcases cmp0_cases a (hi * b) with ⟨k, e⟩ | ⟨k, e⟩ | ⟨k, e⟩
  · refine .inl ⟨e, ?_⟩
    cases hs <;> simp <;> omega
  · refine .inr (.inl ⟨e, ?_⟩)
    cases hs <;> simp <;> omega
  · refine .inr (.inr ⟨e, ?_⟩)
    cases hs <;> simp <;> omega
end Go.Proofs.YthljhijcmdnonaaDoor.tkept
