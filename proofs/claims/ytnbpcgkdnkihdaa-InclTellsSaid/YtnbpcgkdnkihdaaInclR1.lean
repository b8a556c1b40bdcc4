/-
  What rallentandoref06's two, Away, Inside, In and Apart answer; each theorem names its conditions.
-/
import Derived.Test.YtnbpcgkdnkihdaaInclH
import Derived.Test.YtnbpcgkdnkihdaaTightC
namespace Go.Proofs.Ytnbpcgkdnkihdaa.iref
open Go.ChangeShapes Go.WideShapes Go.ChangeAt Go.RowKit num rat dbm way Go.Proofs.Ytnbpcgkdnkihdaa.tight Go.Proofs.Ytnbpcgkdnkihdaa.incl Go.Proofs.Ytnbpcgkdnkihdaa.tref
open bound hiding up
set_option linter.unusedVariables false
set_option linter.unusedSimpArgs false
set_option linter.unusedSectionVars false

/-- the bound that the times keep that do not keep one. -/
def oth (x : Int) : Int := mk (-(x / 2)) (!bS x)
theorem oth_fine {x : Int} (h : Fine x) (hx : x ≠ 9223372036854775807) : Fine (oth x) := by
  rcases h with h | h
  · exact (hx h).elim
  · refine .inr ?_
    unfold oth
    rw [mk_half]
    omega
theorem oth_parts (x : Int) : oth x / 2 = -(x / 2) ∧ oth x % 2 = 1 - x % 2 := by
  have h1 := mk_half (-(x / 2)) (!bS x)
  refine ⟨h1, ?_⟩
  unfold oth mk bS
  by_cases h : x % 2 = 0
  · first | (simp [h]; done) | (simp [h]; omega)
  · first | (simp [h]; done) | (simp [h]; omega)
section
variable {n : Nat} {ts us : List Int} (h0 : 0 < n) (hn : n ≤ 4) (hl : ts.length = n * n) (hu : us.length = n * n) (htop : Tops ts) (hto : Tops us) (ht : MayD n ts) (hm : MayD n us)
include h0 hn hl hu htop hto ht hm
/-- one lies in another one just if it has nothing in common with what each bound leaves out. -/
theorem out_iff (h : OkD n ts) {i j : Nat} (hi : i < n) (hj : j < n) (hx : tat us n i j ≠ 9223372036854775807) : ¬ OkD n (lesT ts (oneT n j i (oth (tat us n i j)))) ↔ tat (clT n ts) n i j ≤ tat us n i j := by
  have hf := fine_at hu hn hm.2.2.2 hi hj
  generalize tat us n i j = x at hf hx ⊢
  have ho := oth_fine hf hx
  have hot := fine_top ho
  have hK := like_one h0 hn hl htop ht hj hi ho
  have hsl : (setT ts (j * n + i) (oth x)).length = n * n := (setT_length _ _ _).trans hl
  have hg := clo_good h0 hn hl htop h
  have hb : beg n (setT ts (j * n + i) (oth x)) = put (beg n ts) j i (cod (oth x)) := by
    funext a b
    exact beg_set hn hl htop hj hi hot a b
  rw [hK.2.2.1, okD_good h0 hn hsl (setT_tops htop _ _) (setT_may ht _ ho), hb, ← put_good,
    put_iff hj hi (good_tri hg) (hg n (Nat.le_refl _)) (fun a ha => by rw [clo_one h0 hn hl htop h a ha]; exact le_refl _) (fun a ha b => F_out n ha)]
  have hoz : oth x ≠ 9223372036854775807 := by
    have := oth_parts x
    rcases hf with k | k
    · exact (hx k).elim
    · omega
  rw [← wts_closed h0 hn hl htop h, wts_in hi hj, cod_some hoz]
  have htt := tat_top (clT_tops (n := n) htop) n i j
  have hxt : x < 9223372036854775807 := by
    have := fine_top hf
    omega
  generalize tat (clT n ts) n i j = t at htt ⊢
  obtain ⟨o1, o2⟩ := oth_parts x
  by_cases htz : t = 9223372036854775807
  · rw [htz, cod_none, none_ad]
    exact ⟨fun k => (k (le_none _)).elim, fun k => by omega⟩
  · rw [cod_some htz, ad_some]
    show ¬ ((1 : Int) ≤ 2 * (t / 2 + oth x / 2) + min (t % 2) (oth x % 2)) ↔ _
    rw [o1, o2]
    omega
theorem inside_iff : inV n ts us ↔ ∀ p, p < n * n → us[p]?.getD 0 ≠ 9223372036854775807 → ¬ OkD n (lesT ts (oneT n (p % n) (p / n) (oth (us[p]?.getD 0)))) := by
  by_cases h : OkD n ts
  · constructor
    · intro k p hp hx
      have hi := (Nat.div_lt_iff_lt_mul h0).2 hp
      have hj := Nat.mod_lt p h0
      have e : p / n * n + p % n = p := by rw [Nat.mul_comm]; exact Nat.div_add_mod p n
      have et : tat us n (p / n) (p % n) = us[p]?.getD 0 := by unfold tat; rw [e]
      have ec : tat (clT n ts) n (p / n) (p % n) = (clT n ts)[p]?.getD 0 := by unfold tat; rw [e]
      rw [← et] at hx ⊢
      rw [out_iff h0 hn hl hu htop hto ht hm h hi hj hx, et, ec]
      exact k h p (by rw [hl]; exact hp)
    · intro k _ p hp
      rw [hl] at hp
      have hi := (Nat.div_lt_iff_lt_mul h0).2 hp
      have hj := Nat.mod_lt p h0
      have e : p / n * n + p % n = p := by rw [Nat.mul_comm]; exact Nat.div_add_mod p n
      have et : tat us n (p / n) (p % n) = us[p]?.getD 0 := by unfold tat; rw [e]
      have ec : tat (clT n ts) n (p / n) (p % n) = (clT n ts)[p]?.getD 0 := by unfold tat; rw [e]
      by_cases hx : us[p]?.getD 0 = 9223372036854775807
      · rw [hx, ← ec]
        exact tat_top (clT_tops (n := n) htop) n _ _
      · have := k p hp hx
        rw [← et] at hx this
        rw [out_iff h0 hn hl hu htop hto ht hm h hi hj hx, et, ec] at this
        exact this
  · refine ⟨fun _ p hp hx ho => h ?_, fun _ k => (h k).elim⟩
    have hi := (Nat.div_lt_iff_lt_mul h0).2 hp
    have hj := Nat.mod_lt p h0
    have e : p / n * n + p % n = p := by rw [Nat.mul_comm]; exact Nat.div_add_mod p n
    have hf : Fine (us[p]?.getD 0) := hm.2.2.2 p (by rw [hu]; exact hp)
    have hof := oth_fine hf hx
    have hom := one_fine h0 hn hj hi hof
    refine les_left ht hom htop (tops_at fun q hq => ?_) ho
    exact fine_top (hom.2.2.2 q hq)
end
theorem one_tops {n i j : Nat} {x : Int} (h0 : 0 < n) (hn : n ≤ 4) (hi : i < n) (hj : j < n) (hx : Fine x) : Tops (oneT n i j x) := tops_at fun q hq => fine_top ((one_fine h0 hn hi hj hx).2.2.2 q hq)

set_option maxRecDepth 100000 in
theorem two_any (n m : Int) (sv tv : Value) (ts us : List Int) (w : World) (hI : law.Ints w.heap.size w sv ts) (hJ : law.Ints w.heap.size w tv us) (hm : ts.length ≤ 1000000) (hm2 : us.length ≤ 1000000) (hlo : dref.Low ts) (hlu : dref.Low us) (htop : Tops ts) (hto : Tops us) :
    Calls Try.prog 34 #[.agg #[.int .i64 n, sv], .agg #[.int .i64 m, tv]] w fun e w' => e = .returned (.int .i64 (askE n m ts us)) ∧ Below w.heap.size w w' := by
  have S := ilaw.st2 n m sv tv ts us w hI hJ
  obtain ⟨ad, cap, rfl⟩ := ints_len hI
  obtain ⟨bd, dap, rfl⟩ := ints_len hJ
  have HT := Lib.hid htop
  have HO := Lib.hid hto
  have HLO := Lib.hid hlo
  have HLU := Lib.hid hlu
  obtain ⟨ev, hev⟩ : ∃ z, askE n m ts us = z := ⟨_, rfl⟩
  rw [hev]
  have HE := Lib.hid hev
  clear hI hJ htop hto hlo hlu hev
  go_enter Try.func34, Try.ntmps34
  obtain ⟨x0, x1, x2, x3, x4⟩ := lies.two S.tail.head.1
  go_wp2_with fail
  clear x0 x1 x2 x3 x4
  generalize (w.alloc (.cells #[.int .i64 n, .slice ad ts.length cap] 27)).alloc (.cells #[.int .i64 m, .slice bd us.length dap] 27) = w0 at S ⊢
  by_cases h : MayD n ts
  · have H := Lib.hid h
    clear h
    refine (may_yes S.tail.head.2 hm HLO.out HT.out H.out).mono ?_
    rintro e w1 ⟨rfl, hB⟩
    replace S := S.below hB
    clear hB
    obtain ⟨x0, x1, x2, x3, x4⟩ := lies.two S.head.1
    go_wp2_with fail
    clear x0 x1 x2 x3 x4
    by_cases k : MayD m us
    · have K := Lib.hid k
      clear k
      refine (may_yes S.head.2 hm2 HLU.out HO.out K.out).mono ?_
      rintro e w2 ⟨rfl, hB⟩
      replace S := S.below hB
      clear hB
      obtain ⟨x0, x1, x2, x3, x4⟩ := lies.two S.head.1
      obtain ⟨y0, y1, y2, y3, y4⟩ := lies.two S.tail.head.1
      by_cases hnm : n = m
      · have he : ev = 0 := by
          have := HE.out
          unfold askE at this
          rw [if_pos ⟨H.out, K.out⟩, if_pos hnm] at this
          exact this.symm
        subst he
        subst hnm
        go_wp2_with fail
        go_ret
        exact ⟨rfl, S.1⟩
      · have he : ev = 40 := by
          have := HE.out
          unfold askE at this
          rw [if_pos ⟨H.out, K.out⟩, if_neg hnm] at this
          exact this.symm
        have u1 : (n != m) = true := by simpa using hnm
        have u2 : (n == m) = false := by simpa using hnm
        subst he
        clear hnm
        go_wp2_with fail
        go_ret
        exact ⟨rfl, S.1⟩
    · have K := Lib.hid k
      clear k
      have he : ev = 8 := by
        have := HE.out
        unfold askE at this
        rw [if_neg (fun x => K.out x.2)] at this
        exact this.symm
      subst he
      refine (may_no S.head.2 hm2 HLU.out HO.out K.out).mono ?_
      rintro e w2 ⟨rfl, hB⟩
      replace S := S.below hB
      clear hB
      go_wp2_with fail
      go_ret
      exact ⟨rfl, S.1⟩
  · have H := Lib.hid h
    clear h
    have he : ev = 8 := by
      have := HE.out
      unfold askE at this
      rw [if_neg (fun x => H.out x.1)] at this
      exact this.symm
    subst he
    refine (may_no S.tail.head.2 hm HLO.out HT.out H.out).mono ?_
    rintro e w1 ⟨rfl, hB⟩
    replace S := S.below hB
    clear hB
    obtain ⟨x0, x1, x2, x3, x4⟩ := lies.two S.head.1
    go_wp2_with fail
    go_ret
    exact ⟨rfl, S.1⟩

set_option maxRecDepth 100000 in
theorem away_is (n : Nat) (sv : Value) (c pff dap : Nat) (ts us : List Int) (w : World) (h0 : 0 < n) (hn : n ≤ 4) (hI : law.Ints w.heap.size w sv ts) (hs : Row w c pff us) (hc : c < w.heap.size) (hl : ts.length = n * n) (hu : us.length = n * n) (htop : Tops ts) (hm : MayD n (lesT ts us)) :
    Calls Try.prog 36 #[.agg #[.int .i64 n, sv], .agg #[.int .i64 n, .slice (some ⟨c, pff, none⟩) (n * n) dap]] w (Tell (¬ OkD n (lesT ts us)) w) := by
  have DB := bound.up2 w (.cells #[.int .i64 n, sv] 27) (.cells #[.int .i64 n, .slice (some ⟨c, pff, none⟩) (n * n) dap] 27)
  have C := Lib.hid (common_is n sv c pff dap ts us _ h0 hn ((hI.below DB).mono DB.size) (hs.below DB hc) (Nat.lt_of_lt_of_le hc DB.size) hl hu htop hm)
  obtain ⟨ad, cap, rfl⟩ := ints_len hI
  clear hI hs hl hu htop hm
  go_enter Try.func36, Try.ntmps36
  go_wp2_with fail
  refine C.out.mono ?_
  rintro e w1 ⟨hB, ⟨hno, rfl⟩ | ⟨hok, a, l, c', rfl, _⟩⟩
  · have EB := lies.frame_up (later DB hB) (.cells #[.int .i64 0, .slice none 0 0] 27)
    have HN := Lib.hid hno
    clear hB DB C hno
    go_wp2_with fail
    go_ret
    exact ⟨EB, true, rfl, fun _ => HN.out, fun _ => rfl⟩
  · have EB := lies.frame_up (later DB hB) (.cells #[.int .i64 n, .slice a l c'] 27)
    have HN := Lib.hid hok
    clear hB DB C hok
    go_wp2_with fail
    go_ret
    exact ⟨EB, false, rfl, fun h => (by cases h), fun h => (h HN.out).elim⟩
end Go.Proofs.Ytnbpcgkdnkihdaa.iref
