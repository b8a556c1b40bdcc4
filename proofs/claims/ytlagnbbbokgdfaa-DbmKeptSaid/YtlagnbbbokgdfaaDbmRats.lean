/-
  Times in memory: a list of fractions, opened; and what Keeps of package dbm answers where a matrix, a time or their number may not be; the conditions: they are ints, in memory.
-/
import Derived.Test.YtlagnbbbokgdfaaDbmLaw
import Derived.Test.YtlagnbbbokgdfaaRat7
import Derived.Deep.Slices
import Derived.Deep.Fields
import Derived.ChangeSame
namespace Go.Proofs.Ytlagnbbbokgdfaa.dbm
open Go.ChangeShapes Go.WideShapes Go.ChangeAt Go.RowKit Go.Deep num rat
open bound hiding up
set_option linter.unusedVariables false
set_option linter.unusedSimpArgs false

/-- the fraction at a place. -/
def pr (rs : List (Int × Int)) (k : Nat) : Int × Int := rs[k]?.getD (0, 0)
/-- fractions in a row. -/
def RowR (W : World) (b off : Nat) (rs : List (Int × Int)) : Prop := ∀ k, k < rs.length → W.cell? ⟨b, off + k * 2, none⟩ = some (.int .i64 (pr rs k).1) ∧ W.cell? ⟨b, off + k * 2 + 1, none⟩ = some (.int .i64 (pr rs k).2)
theorem RowR.below {n : Nat} {W W' : World} {b off : Nat} {rs : List (Int × Int)} (h : RowR W b off rs) (k : Below n W W') (hb : b < n) : RowR W' b off rs := fun p hp => ⟨(k.cell (p := ⟨b, off + p * 2, none⟩) hb).trans (h p hp).1, (k.cell (p := ⟨b, off + p * 2 + 1, none⟩) hb).trans (h p hp).2⟩
/-- the slice value sv holds the fractions rs, in a block below n₀; or there are none. -/
def Rats (n₀ : Nat) (W : World) (sv : Value) (rs : List (Int × Int)) : Prop :=
  ((∃ a cap, sv = .slice a 0 cap ∧ (a = none → cap = 0)) ∧ rs = []) ∨ ∃ b off cap, sv = .slice (some ⟨b, off, none⟩) rs.length cap ∧ b < n₀ ∧ RowR W b off rs
theorem Rats.below {n₀ : Nat} {A B : World} (h : Below n₀ A B) {sv : Value} {rs : List (Int × Int)} : Rats n₀ A sv rs → Rats n₀ B sv rs
  | .inl e => .inl e
  | .inr ⟨b, off, cap, e, hb, hc⟩ => .inr ⟨b, off, cap, e, hb, hc.below h hb⟩
theorem Rats.mono {n₀ n₁ : Nat} {A : World} (h : n₀ ≤ n₁) {sv : Value} {rs : List (Int × Int)} : Rats n₀ A sv rs → Rats n₁ A sv rs
  | .inl e => .inl e
  | .inr ⟨b, off, cap, e, hb, hc⟩ => .inr ⟨b, off, cap, e, by omega, hc⟩
theorem rats_len {n₀ : Nat} {W : World} {sv : Value} {rs : List (Int × Int)} (h : Rats n₀ W sv rs) : ∃ a cap, sv = .slice a rs.length cap := by
  rcases h with ⟨⟨a, cap, rfl, _⟩, rfl⟩ | ⟨b, off, cap, rfl, _⟩
  · exact ⟨_, _, rfl⟩
  · exact ⟨_, _, rfl⟩
/-- their numbers are ints. -/
def IntsR (rs : List (Int × Int)) : Prop := ∀ k, k < rs.length → (-9223372036854775808 ≤ (pr rs k).1 ∧ (pr rs k).1 ≤ 9223372036854775807) ∧ (-9223372036854775808 ≤ (pr rs k).2 ∧ (pr rs k).2 ≤ 9223372036854775807)

section
variable {H : Type} {enc : TypeId × Value → H} {P : Program} {w : World} {base : Nat} {spare : Nat → Bool} {held : Bool}
/-- the cells of a slice of structs of one-cell fields, each with its reading. -/
theorem slice_fields {t e : TypeId} {fs : Array Field} {fuel : Nat} {cs : List Value} {x : DataW H × List MemPlace} (ht : P.underlying t = some (.slice e)) (he : P.underlying e = some (.struct fs))
    (hone : oneCellFields P fs = true) (hC : P.cellsOf e = fs.size) (h : DataW.trod enc P w base spare held fuel t cs = some x) :
    (cs = [.slice none 0 0]) ∨
    ∃ (a : Addr) (len cap m : Nat), cs = [.slice (some a) len cap] ∧ len ≤ cap ∧ cap ≤ maxLen ∧ m = (if spare a.block then cap else len) ∧
      ∀ i, i < m → ∃ n : Nat, ∀ (j : Nat) (f : Field), fs[j]? = some f → ∃ (v : Value) (y : DataW H × List MemPlace), w.cell? (a.add (i * fs.size + j)) = some v ∧ DataW.trod enc P w base spare held n f.type [v] = some y := by
  rcases open_slice ht h with h0 | ⟨a, len, cap, m, n, D, Pl, hcs, hb, hl, hm, hmm, hx, hi⟩
  · exact .inl h0.1
  · refine .inr ⟨a, len, cap, m, hcs, hl, hm, hmm, fun i him => ?_⟩
    obtain ⟨cs', hc, ht'⟩ := hi i him
    rw [hC] at hc
    obtain ⟨ys, n', hn', hy, hlen, hyl, hf⟩ := DataW.trod_struct he ht'
    obtain ⟨_, hcl, hat⟩ := World.cells?_some hc
    refine ⟨n', fun j f hj => ?_⟩
    obtain ⟨ho, hk⟩ := hone_of hone j f hj
    have hjl : j < fs.size := (Array.getElem?_eq_some_iff.1 hj).1
    have hcell := hat j hjl
    have hv : cs'[j]? = some (cs'[j]'(by omega)) := List.getElem?_eq_getElem (by omega)
    have h1 := hf j f hj
    rw [ho, hk] at h1
    have hone' : (cs'.drop j).take 1 = [cs'[j]'(by omega)] := by
      rw [List.drop_eq_getElem_cons (by omega)]
      rfl
    rw [hone'] at h1
    have hys : ys[j]? = some (ys[j]'(by omega)) := List.getElem?_eq_getElem (by omega)
    refine ⟨_, _, ?_, h1.trans hys⟩
    rw [← Go.Deep.add_add, hcell, hv]
end

theorem pr_map (f : Nat → Int × Int) (len k : Nat) (h : k < len) : pr ((List.range len).map f) k = f k := by
  simp [pr, h]
set_option maxRecDepth 100000 in
/-- times in memory that lies below. -/
theorem open_rats {H : Type} {enc : TypeId × Value → H} {W : World} {v : Value} {d : DataW H} {p : List MemPlace} {base : Nat}
    (hok : Value.okWide Try.prog W .any base 32 v) (h : DataW.Trod enc Try.prog W 0 (fun _ => true) true 32 v d p) :
    ∃ rs : List (Int × Int), IntsR rs ∧ Rats W.heap.size W v rs ∧ rs.length ≤ maxLen := by
  obtain ⟨a0, len, cap, rfl⟩ := okWide_slice Try.underlying32 hok
  obtain ⟨fuel, hf⟩ := h
  rcases slice_fields Try.underlying32 Try.underlying31 (by kernel_rfl) (by kernel_rfl) hf with hcs | ⟨a, len', cap', m, hcs, hl, hm, hmm, hi⟩
  · simp [Value.cells] at hcs
    obtain ⟨rfl, rfl, rfl⟩ := hcs
    exact ⟨[], fun k hk => absurd hk (by simp), .inl ⟨⟨_, _, rfl, fun _ => rfl⟩, rfl⟩, Nat.zero_le _⟩
  · simp [Value.cells] at hcs
    obtain ⟨rfl, rfl, rfl⟩ := hcs
    simp only [if_true] at hmm
    have hc : ∀ i, i < len → ∃ x : Int × Int, (W.cell? (a.add (i * 2)) = some (.int .i64 x.1) ∧ W.cell? (a.add (i * 2 + 1)) = some (.int .i64 x.2)) ∧ (Lit.int .i64 x.1).wf = true ∧ (Lit.int .i64 x.2).wf = true := fun i hil => by
      obtain ⟨n, hff⟩ := hi i (by omega)
      obtain ⟨v0, y0, e0, t0⟩ := hff 0 _ rfl
      obtain ⟨v1, y1, e1, t1⟩ := hff 1 _ rfl
      obtain ⟨x, hx, _, wx⟩ := DataW.trod_int Try.underlying3 t0
      obtain ⟨y, hy, _, wy⟩ := DataW.trod_int Try.underlying3 t1
      simp only [List.cons.injEq, and_true] at hx hy
      subst hx
      subst hy
      exact ⟨(x, y), ⟨e0, e1⟩, wx, wy⟩
    obtain ⟨f, hf⟩ : ∃ f : Nat → Int × Int, ∀ i, i < len → (W.cell? (a.add (i * 2)) = some (.int .i64 (f i).1) ∧ W.cell? (a.add (i * 2 + 1)) = some (.int .i64 (f i).2)) ∧ (Lit.int .i64 (f i).1).wf = true ∧ (Lit.int .i64 (f i).2).wf = true :=
      ⟨fun i => if h : i < len then (hc i h).choose else (0, 0), fun i h => by dsimp only; rw [dif_pos h]; exact (hc i h).choose_spec⟩
    have hlen : ((List.range len).map f).length = len := by simp
    refine ⟨(List.range len).map f, fun k hk => ?_, ?_, by rw [hlen]; omega⟩
    · rw [hlen] at hk
      rw [pr_map f len k hk]
      exact ⟨⟨law.wf_lo (hf k hk).2.1, law.wf_hi (hf k hk).2.1⟩, ⟨law.wf_lo (hf k hk).2.2, law.wf_hi (hf k hk).2.2⟩⟩
    · by_cases h0 : len = 0
      · subst h0
        exact .inl ⟨⟨_, _, rfl, fun h => by cases h⟩, by simp⟩
      · obtain ⟨b, off, spot⟩ := a
        have hspot : spot = none := by simpa [Addr.add] using World.cell?_spot (hf 0 (by omega)).1.1
        subst hspot
        have hcell : ∀ i, i < len → W.cell? ⟨b, off + i * 2, none⟩ = some (.int .i64 (f i).1) ∧ W.cell? ⟨b, off + i * 2 + 1, none⟩ = some (.int .i64 (f i).2) := fun i hi' => by
          have := (hf i hi').1
          rw [Go.WideShapes.add_plain, Go.WideShapes.add_plain] at this
          exact this
        refine .inr ⟨b, off, cap, by rw [hlen], law.cell_lt (hcell 0 (by omega)).1, fun j hj => ?_⟩
        rw [hlen] at hj
        rw [pr_map f len j hj]
        exact hcell j hj

/-- may all of them be? -/
def MayT (rs : List (Int × Int)) : Prop := ∀ k, k < rs.length → MayR (pr rs k).1 (pr rs k).2

theorem one {W : World} {g : Nat} {t : TypeId} {u : Value} (h : lies.Lies W g t #[u]) : W.cell? ⟨g, 0, none⟩ = some u ∧ W.frozen? ⟨g, 0, none⟩ = false ∧ g < W.heap.size := ⟨lies.cell h 0, lies.free h 0, lies.lt h⟩
/-- what lies there while times are looked at. -/
def Mik (B : Nat) (n : Int) (sv : Value) (W : World) : Prop :=
  lies.Lies W B 27 #[.int .i64 n, sv] ∧ lies.Lies W (B + 1) 4 #[.bool false] ∧ lies.Lies W (B + 1 + 1) 22 #[.int .i64 0]
theorem Mik.below {B : Nat} {n : Int} {sv : Value} {W X : World} (h : Mik B n sv W) (k : Below W.heap.size W X) : Mik B n sv X := ⟨lies.on_call h.1 k, lies.on_call h.2.1 k, lies.on_call h.2.2 k⟩
theorem mik (n : Int) (sv : Value) (w : World) : Mik w.heap.size n sv (((w.alloc (.cells #[.int .i64 n, sv] 27)).alloc (.cells #[.bool false] 4)).alloc (.cells #[.int .i64 0] 22)) ∧ Below w.heap.size w (((w.alloc (.cells #[.int .i64 n, sv] 27)).alloc (.cells #[.bool false] 4)).alloc (.cells #[.int .i64 0] 22)) :=
  ⟨⟨lies.on_alloc (lies.on_alloc (lies.made w _ _) _) _, lies.on_alloc (lies.made_at _ _ _ _ (World.size_alloc _ _)) _, lies.made_at _ _ _ _ (by simp)⟩, (((Below.refl w.heap.size w).alloc (Nat.le_refl _) _).alloc (by simp) _).alloc (by simp; omega) _⟩
theorem ret2 {B : Nat} {w W : World} (h : Below B w W) (u v : Value) : Below B w ((W.setCell ⟨B + 1, 0, none⟩ u).setCell ⟨B + 1 + 1, 0, none⟩ v) :=
  (h.setCell (p := ⟨B + 1, 0, none⟩) (by simp) _).setCell (p := ⟨B + 1 + 1, 0, none⟩) (by simp; omega) _
theorem dkeeps_bad (n : Int) (sv tv : Value) (ts : List Int) (w : World) (hI : law.Ints w.heap.size w sv ts) (hm : ts.length ≤ 1000000) (htop : ∀ x ∈ ts, x ≤ 9223372036854775807) (h : ¬ MayD n ts) :
    Calls Try.prog 9 #[.agg #[.int .i64 n, sv], tv] w fun e w' => e = .returned (.tuple #[.bool false, .int .i64 8]) ∧ Below w.heap.size w w' := by
  obtain ⟨D0, DB⟩ := mik n sv w
  have hI1 := (hI.below DB).mono DB.size
  obtain ⟨a, cap, rfl⟩ := ints_len hI
  have HI := Lib.hid hI1
  have HT := Lib.hid htop
  have H := Lib.hid h
  clear hI hI1 htop h
  go_enter Try.func9, Try.ntmps9
  go_wp2_with (go_at_call 18; refine (check_no n _ ts _ HI.out hm HT.out H.out).mono ?_; rintro e w1 ⟨rfl, hB1⟩; have E0 := D0.below hB1; have EB := DB.trans (hB1.mono DB.size); clear D0 DB hB1; obtain ⟨x0, x1, x2⟩ := one E0.2.1; obtain ⟨y0, y1, y2⟩ := one E0.2.2)
  exact bodyPost_ret (v := .tuple #[.bool false, .int .i64 8]) (by simp [results, Try.results9, go_sem, x0, y0]) rfl ⟨rfl, ret2 EB _ _⟩

/-- what Keeps answers where the times may not be, or are not as many as the clocks but one. -/
def kdN (rs : List (Int × Int)) (e : Int) : Prop := (e = 8 ∧ ¬ MayT rs) ∨ (e = 40 ∧ MayT rs)
set_option maxHeartbeats 2000000 in
theorem dkeeps_not (n : Int) (sv : Value) (ts : List Int) (rs : List (Int × Int)) (len cap : Nat) (ao : Option Addr) (w : World) (hI : law.Ints w.heap.size w sv ts) (hm : ts.length ≤ 1000000) (htop : ∀ x ∈ ts, x ≤ 9223372036854775807) (h : MayD n ts)
    (hr : Rats w.heap.size w (.slice ao len cap) rs) (hl : rs.length = len) (hi : IntsR rs) (hlm : len ≤ 1000000) (hd : ¬ (MayT rs ∧ (len : Int) = n - 1)) :
    Calls Try.prog 9 #[.agg #[.int .i64 n, sv], .slice ao len cap] w fun e w' => (∃ c, kdN rs c ∧ e = .returned (.tuple #[.bool false, .int .i64 c])) ∧ Below w.heap.size w w' := by
  obtain ⟨D0, DB⟩ := mik n sv w
  have hI1 := (hI.below DB).mono DB.size
  obtain ⟨a, cap', rfl⟩ := ints_len hI
  have hn1 := h.1
  have hn2 := h.2.1
  have HI := Lib.hid hI1
  have HT := Lib.hid htop
  have H := Lib.hid h
  have hcell : ∀ k, k < len → ∃ b off, ao = some ⟨b, off, none⟩ ∧ b < w.heap.size ∧ RowR w b off rs := fun k hk => by
    rcases hr with ⟨_, rfl⟩ | ⟨b, off, c, e, hb, hc⟩
    · simp at hl; omega
    · cases e; exact ⟨b, off, rfl, hb, hc⟩
  have HR := Lib.hid hcell
  have HL := Lib.hid hl
  have HN := Lib.hid hi
  have HD := Lib.hid hd
  clear hI hI1 htop h hr hl hi hd hcell
  go_enter Try.func9, Try.ntmps9
  go_wp2_with (go_at_call 18; refine (check_ok n _ ts _ HI.out HT.out H.out).mono ?_; rintro e w1 ⟨rfl, hB1⟩; have E0 := D0.below hB1; have EB := DB.trans (hB1.mono DB.size); clear D0 DB hB1)
  go_loopw [23] (fun i wr => ∃ k : Nat, k ≤ len ∧ i = .int .i64 k ∧ RowKit.Hid (∀ p, p < k → MayR (pr rs p).1 (pr rs p).2) ∧ Mik w.heap.size n (.slice a ts.length cap') wr ∧ Below w.heap.size w wr)
    (fun i _ => len - (intOf i).toNat)
  case atStart => exact ⟨0, Nat.zero_le _, rfl, Lib.hid (fun m hm => absurd hm (by omega)), E0, EB⟩
  case round =>
    clear E0 EB
    obtain ⟨k, hk, rfl, hpos, hM, hB⟩ := hrel
    by_cases hkn : k < len
    · obtain ⟨b, off, hao, hb, hrow⟩ := HR.out k hkn
      obtain ⟨hc1, hc2⟩ := (hrow.below hB hb) k (by rw [HL.out]; exact hkn)
      obtain ⟨⟨a1, a2⟩, ⟨a3, a4⟩⟩ := HN.out k (by rw [HL.out]; exact hkn)
      have hbw : b < wr.heap.size := by have := hB.size; omega
      clear hrow
      subst hao
      generalize hx : (pr rs k).1 = x at hc1 a1 a2
      generalize hy : (pr rs k).2 = y at hc2 a3 a4
      have HX := Lib.hid hx
      have HY := Lib.hid hy
      clear hx hy
      by_cases hmr : MayR x y
      · have HM := Lib.hid hmr
        clear hmr
        go_wp2_with (go_at_call 24; refine (check3_ok x y _ a1 a2 HM.out).mono ?_; rintro e w4 ⟨rfl, hB4⟩; have F0 := (hM.below ((Below.refl _ wr).alloc (Nat.le_refl _) _)).below hB4; have FB := (hB.alloc hB.size _).trans (hB4.mono (hB.alloc hB.size _).size); clear hM hB hB4 hc1 hc2)
        go_roundw
        case rel => exact ⟨k + 1, by omega, by go_num, Lib.hid (fun m hm => by
          by_cases e : m = k
          · subst e; rw [HX.out, HY.out]; exact HM.out
          · exact hpos.out m (by omega)), F0, FB⟩
        case measure => simp [intOf]; omega
      · have HM := Lib.hid hmr
        clear hmr
        go_wp2_with (go_at_call 24; refine (check3_no x y _ a1 a2 HM.out).mono ?_; rintro e w4 ⟨rfl, hB4⟩; have F0 := (hM.below ((Below.refl _ wr).alloc (Nat.le_refl _) _)).below hB4; have FB := (hB.alloc hB.size _).trans (hB4.mono (hB.alloc hB.size _).size); clear hM hB hB4 hc1 hc2; obtain ⟨x0, x1, x2⟩ := one F0.2.1; obtain ⟨y0, y1, y2⟩ := one F0.2.2)
        exact bodyPost_ret (v := .tuple #[.bool false, .int .i64 8]) (by simp [results, Try.results9, go_sem, x0, y0]) rfl ⟨⟨8, .inl ⟨rfl, fun hall => HM.out (by have := hall k (by rw [HL.out]; exact hkn); rw [HX.out, HY.out] at this; exact this)⟩, rfl⟩, ret2 FB _ _⟩
    · obtain rfl : len = k := by omega
      have hall : MayT rs := fun p hp => hpos.out p (by rw [HL.out] at hp; exact hp)
      have hne : ¬ (len : Int) = n - 1 := fun e => HD.out ⟨hall, e⟩
      have z1 : wrap64 (n - 1) = n - 1 := by clear hne; unfold wrap64; omega
      have z2 : IntKind.i64.wrap (n - 1) = n - 1 := IntWalk.i64_in _ (by omega)
      have z3 : ((len : Int) == n - 1) = false := by simpa using hne
      have HALL := Lib.hid hall
      clear hall hne
      obtain ⟨d0, d1, d2, d3, d4⟩ := lies.two hM.1
      obtain ⟨x0, x1, x2⟩ := one hM.2.1
      obtain ⟨y0, y1, y2⟩ := one hM.2.2
      go_wp2_with fail
      exact bodyPost_ret (v := .tuple #[.bool false, .int .i64 40]) (by simp [results, Try.results9, go_sem, x0, y0]) rfl ⟨⟨40, .inr ⟨rfl, HALL.out⟩, rfl⟩, ret2 hB _ _⟩
end Go.Proofs.Ytlagnbbbokgdfaa.dbm
