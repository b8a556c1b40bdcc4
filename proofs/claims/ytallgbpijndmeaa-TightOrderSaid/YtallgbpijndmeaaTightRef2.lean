/-
  What rallentandoref05's One and Common answer; each theorem names its conditions.
-/
import Derived.Test.YtallgbpijndmeaaTightRef1
namespace Go.Proofs.Ytallgbpijndmeaa.tref
open Go.ChangeShapes Go.WideShapes Go.ChangeAt Go.RowKit num dbm dref Go.Proofs.Ytallgbpijndmeaa.tight
open bound hiding up
set_option linter.unusedVariables false
set_option linter.unusedSimpArgs false

/-- the matrix with one bound alone. -/
def oneT (n i j : Nat) (x : Int) : List Int := (allP n (n * n)).set (i * n + j) x
theorem oneT_length (n i j : Nat) (x : Int) : (oneT n i j x).length = n * n := by unfold oneT; rw [List.length_set, allP_length]
set_option maxRecDepth 100000 in
set_option maxHeartbeats 2000000 in
theorem one_is (n i j : Nat) (x : Int) (w : World) (h0 : 0 < n) (hn : n ≤ 4) (hi : i < n) (hj : j < n) :
    Calls Try.prog 36 #[.int .i64 n, .int .i64 i, .int .i64 j, .int .i64 x] w fun e w' => Below w.heap.size w w' ∧ ∃ g cc, e = .returned (.agg #[.int .i64 n, .slice (some ⟨g, 0, none⟩) (n * n) cc]) ∧ w.heap.size ≤ g ∧ w'.ownsRow w.heap.size 26 1 (.slice (some ⟨g, 0, none⟩) (n * n) cc) (n * n) ((oneT n i j x).map (Value.int .i64)) := by
  have hpp : 0 < n * n := Nat.mul_pos h0 h0
  have hp := place_le hn hi hj
  obtain ⟨y1, y2, y3, y4, y5, y6, y7⟩ := dref.place_int hn hi hj
  go_enter Try.func36, Try.ntmps36
  have K1 := up1 w (.cells #[.int .i64 0, .slice none 0 0] 24)
  have R1 := lies.made w 24 #[.int .i64 0, .slice none 0 0]
  go_wp2_with fail
  refine (all_is n _ h0 hn).mono ?_
  rintro e w2 ⟨hB2, v, rfl, hO⟩
  obtain ⟨g, cc, rfl⟩ : ∃ g cc, v = .slice (some ⟨g, 0, none⟩) (n * n) cc := by
    rcases Go.Joins.ownsRow_forms hO with ⟨_, h⟩ | ⟨g, cc, rfl⟩
    · omega
    · exact ⟨g, cc, rfl⟩
  have hgb := hO.lt g rfl
  simp only [World.size_alloc] at hgb
  have R2 := lies.on_call R1 hB2
  have K2 := K1.trans (hB2.mono K1.size)
  have O2 := (hO.stored (i * n + j) (.int .i64 x)).1
  rw [← List.map_set] at O2
  have hbs : (w.alloc (.cells #[.int .i64 0, .slice none 0 0] 24)).heap.size = w.heap.size + 1 := World.size_alloc _ _
  rw [hbs] at O2
  have hc1 : ∃ z, w2.cell? ⟨g, i * n + j, none⟩ = some z := by
    have hkl : i * n + j < (allP n (n * n)).length := by rw [allP_length]; exact hp
    refine ⟨.int .i64 ((allP n (n * n))[i * n + j]), ?_⟩
    rw [hO.cellAt (i * n + j) (by omega), List.getElem?_map, List.getElem?_eq_getElem hkl]; rfl
  obtain ⟨z, hz⟩ := hc1
  have hf := hO.frozenAt (i * n + j)
  have hg1 := hgb.1
  have hg2 := hgb.2
  have hne : ¬ g = w2.heap.size := by omega
  have hne2 : ¬ w2.heap.size = g := by omega
  clear R1 K1 hB2 hO
  obtain ⟨z0, z1, z2, z3, z4⟩ := lies.two R2
  go_wp2_with fail
  refine bodyPost_ret (v := .agg #[.int .i64 n, .slice (some ⟨g, 0, none⟩) (n * n) cc]) (by simp [results, Try.results36, go_sem, z0, z1, hne, hne2, z4, Nat.ne_of_lt z4, Nat.ne_of_lt hg1, (Nat.ne_of_lt hg1).symm]) rfl ⟨?_, g, cc, rfl, by omega, ?_⟩
  · exact (((K2.setCell (p := ⟨g, i * n + j, none⟩) (show w.heap.size ≤ g by omega) _).setCell (p := ⟨w.heap.size, 0, none⟩) (Nat.le_refl _) _).setCell (p := ⟨w.heap.size, 1, none⟩) (Nat.le_refl _) _).alloc (by have := K2.size; simp; omega) _
  · exact (Go.Joins.ownsRow_le (dref.own_other (dref.own_other O2 (p := ⟨w.heap.size, 0, none⟩) (by simp) _) (p := ⟨w.heap.size, 1, none⟩) (by simp) _) (by omega)).alloc _

/-- what Common answers, of what it closes. -/
def Comm (n : Nat) (L : List Int) (w : World) (e : Ending) (w' : World) : Prop := Below w.heap.size w w' ∧
  ((¬ OkD n L ∧ e = .returned (.tuple #[.agg #[.int .i64 0, .slice none 0 0], .bool false])) ∨
   (OkD n L ∧ ∃ a l c, e = .returned (.tuple #[.agg #[.int .i64 n, .slice a l c], .bool true]) ∧ w'.ownsRow w.heap.size 26 1 (.slice a l c) (clT n L).length ((clT n L).map (Value.int .i64))))
theorem closed_g (n g cc : Nat) (L : List Int) (w : World) (h0 : 0 < n) (hn : n ≤ 4) (hl : L.length = n * n) (htop : Tops L) (h : MayD n L) (hM : MatI n g 0 L w) :
    Calls Try.prog 64 #[.agg #[.int .i64 n, .slice (some ⟨g, 0, none⟩) (n * n) cc]] w (Comm n L w) := by
  refine (closed_is n g 0 cc L w h0 hn hl h.2.2.2 hM).mono ?_
  rintro e w2 ⟨hB2, ⟨hx, rfl⟩ | ⟨hx, v, rfl, hO⟩⟩
  · refine ⟨hB2, .inl ⟨fun ⟨_, h0', hne⟩ => ?_, rfl⟩⟩
    obtain ⟨x, hxn, hx⟩ := hx
    exact hx (round_ok h0 hn hl htop h.2.2.2 (fun k hk => hne k (by simpa using hk)) hxn)
  · obtain ⟨a', l', c', rfl⟩ := own_slice hO
    have hne : ∀ k, k ≤ n → ¬ emp n (tabs n h0 L k) := fun k hk he => by
      obtain ⟨x, hxn, hnx⟩ := round_bad h0 hn hl htop h.2.2.2 k hk he
      exact hnx (hx x hxn)
    have hok : OkD n L := ⟨h, by simpa using h0, fun k hk => hne k (by simpa using hk)⟩
    rw [clP_is h0 hn hl htop h.2.2.2 hne, ← clT_nat h0] at hO
    refine ⟨hB2, .inr ⟨hok, a', l', c', rfl, ?_⟩⟩
    rw [← hl, ← clT_length hok] at hO
    exact hO

set_option maxRecDepth 100000 in
set_option maxHeartbeats 2000000 in
theorem common_is (n : Nat) (sv : Value) (c pff dap : Nat) (ts us : List Int) (w : World) (h0 : 0 < n) (hn : n ≤ 4) (hI : law.Ints w.heap.size w sv ts) (hs : Row w c pff us) (hc : c < w.heap.size) (hl : ts.length = n * n) (hu : us.length = n * n) (htop : Tops ts) (hm : MayD n (lesT ts us)) :
    Calls Try.prog 35 #[.agg #[.int .i64 n, sv], .agg #[.int .i64 n, .slice (some ⟨c, pff, none⟩) (n * n) dap]] w (Comm n (lesT ts us) w) := by
  have hpp : 0 < n * n := Nat.mul_pos h0 h0
  have hsq := sq_le hn
  obtain ⟨DB, D0, D1, D2⟩ := box3 n n sv (.slice (some ⟨c, pff, none⟩) (n * n) dap) w
  have C := Lib.hid (lesser_any n n sv c pff dap (n * n) ts us _ ((hI.below DB).mono DB.size) (hs.below DB hc) (Nat.lt_of_lt_of_le hc DB.size) hl hu hpp (by omega))
  have HL := Lib.hid hl
  have HT := Lib.hid htop
  have HM := Lib.hid hm
  obtain ⟨ad, cap, rfl⟩ := ints_len hI
  clear hI hs hl hu htop hm
  go_enter Try.func35, Try.ntmps35
  go_wp2_with fail
  refine C.out.mono ?_
  rintro e w1 ⟨hB1, g, cc, rfl, hg, hO⟩
  have E2 := lies.on_call D2 hB1
  have EB := DB.trans (hB1.mono DB.size)
  have hll : (lesT ts us).length = n * n := (lesT_length _ _).trans HL.out
  have hM : MatI n g 0 (lesT ts us) w1 := by
    refine ⟨fun p hp => ?_, (hO.lt g rfl).2⟩
    rw [Nat.zero_add, hO.cellAt p (by rw [hll] at hp; omega), List.getElem?_map, List.getElem?_eq_getElem hp]; rfl
  have C2 := Lib.hid (closed_g n g cc (lesT ts us) w1 h0 hn hll (lesT_tops HT.out us) HM.out hM)
  clear C D0 D1 D2 DB hB1 hO hM hll
  go_wp2_with fail
  refine C2.out.mono ?_
  rintro e w2 ⟨hB2, ⟨hno, rfl⟩ | ⟨hok, a, l, c', rfl, hI⟩⟩
  · have F2 := lies.on_call E2 hB2
    have FB := EB.trans (hB2.mono EB.size)
    have HNO := Lib.hid hno
    clear E2 EB hB2 C2 hno
    obtain ⟨z0, z1, z2, z3, z4⟩ := lies.two F2
    go_wp2_with fail
    exact bodyPost_ret (v := .tuple #[.agg #[.int .i64 0, .slice none 0 0], .bool false]) (by simp [results, Try.results35, go_sem, z0, z1]) rfl ⟨ret3 FB (by omega) _ _, .inl ⟨HNO.out, rfl⟩⟩
  · have F2 := lies.on_call E2 hB2
    have FB := EB.trans (hB2.mono EB.size)
    have HOK := Lib.hid hok
    have HIN := Lib.hid hI
    have hsz := EB.size
    have hlt := lies.lt E2
    clear E2 EB hB2 C2 hok hI
    obtain ⟨z0, z1, z2, z3, z4⟩ := lies.two F2
    go_wp2_with fail
    refine bodyPost_ret (v := .tuple #[.agg #[.int .i64 n, .slice a l c'], .bool true]) (by simp [results, Try.results35, go_sem, z0, z1]) rfl ⟨ret3 FB (by omega) _ _, .inr ⟨HOK.out, a, l, c', rfl, ?_⟩⟩
    exact Go.Joins.ownsRow_le (dref.own_other (dref.own_other HIN.out (p := ⟨w.heap.size + 1 + 1, 0, none⟩) hlt _) (p := ⟨w.heap.size + 1 + 1, 1, none⟩) hlt _) hsz
end Go.Proofs.Ytallgbpijndmeaa.tref
