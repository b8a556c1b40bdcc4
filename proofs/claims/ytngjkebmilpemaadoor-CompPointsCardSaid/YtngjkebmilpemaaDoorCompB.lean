/-
  What comp.Comp's closure puts into a matrix of four clocks; Comp, Back and Firsts in one form; each theorem names its conditions.
-/
import Derived.Test.YtngjkebmilpemaaDoorCompA
namespace Go.Proofs.YtngjkebmilpemaaDoor.comp
open Go.Joins Go.ChangeShapes Go.WideShapes Go.ChangeAt Go.RowKit num rat dbm Go.Proofs.YtngjkebmilpemaaDoor.tight Go.Proofs.YtngjkebmilpemaaDoor.plaw Go.Proofs.YtngjkebmilpemaaDoor.zopen Go.Proofs.YtngjkebmilpemaaDoor.zone
open bound hiding up
set_option linter.unusedVariables false
set_option linter.unusedSimpArgs false

/-- a zone's matrix laid over another one, as far as a place. -/
def putK (z : List Int) (P : Nat → Nat) (us : List Int) : Nat → List Int
  | 0 => us
  | k + 1 => setT (putK z P us k) (P (k / 3) * 4 + P (k % 3)) ((fullT z)[k]?.getD 0)
theorem putK_length (z : List Int) (P : Nat → Nat) (us : List Int) : ∀ k, (putK z P us k).length = us.length
  | 0 => rfl
  | k + 1 => by unfold putK; rw [setT_length]; exact putK_length z P us k
theorem putK_up (z : List Int) (P : Nat → Nat) (us : List Int) {i j : Nat} (hj : j < 3) : putK z P us (3 * i + (j + 1)) = setT (putK z P us (3 * i + j)) (P i * 4 + P j) ((fullT z)[i * 3 + j]?.getD 0) := by
  have h : putK z P us (3 * i + j + 1) = setT (putK z P us (3 * i + j)) (P ((3 * i + j) / 3) * 4 + P ((3 * i + j) % 3)) ((fullT z)[3 * i + j]?.getD 0) := rfl
  rw [show i * 3 + j = 3 * i + j by omega, show 3 * i + (j + 1) = 3 * i + j + 1 from rfl, h, show (3 * i + j) / 3 = i by omega, show (3 * i + j) % 3 = j by omega]
theorem index_three (z0 z1 z2 : Int) (p : Nat) (hp : p < 3) (W : World) : (Instr.index 72 (.agg #[.int .i64 z0, .int .i64 z1, .int .i64 z2]) (.int .i64 p)).run Tryd.prog W = .ok (.int .i64 ([z0, z1, z2][p]?.getD 0)) W := by
  rcases (by omega : p = 0 ∨ p = 1 ∨ p = 2) with rfl | rfl | rfl <;> kernel_rfl
theorem wrap_in {x : Int} (h : -9223372036854775808 ≤ x ∧ x ≤ 9223372036854775807) : wrap64 x = x := by
  have := IntWalk.i64_in x h
  rwa [IntWalk.i64_left] at this
theorem place4 {p q : Nat} (hp : p < 4) (hq : q < 4) : wrap64 ((p : Int) * 4) = (p : Int) * 4 ∧ wrap64 ((p : Int) * 4 + q) = (p : Int) * 4 + q ∧ 0 ≤ (p : Int) * 4 + q ∧ (p : Int) * 4 + q < 16 ∧ ((p : Int) * 4 + q).toNat = p * 4 + q := by
  refine ⟨wrap_in (by omega), wrap_in (by omega), by omega, by omega, by omega⟩
theorem place3 {p q : Nat} (hp : p < 3) (hq : q < 3) : IntKind.i64.wrap ((p : Int) * 3) = (p : Int) * 3 ∧ IntKind.i64.wrap ((p : Int) * 3 + q) = (p : Int) * 3 + q ∧ 0 ≤ (p : Int) * 3 + q ∧ (p : Int) * 3 + q < 9 ∧ ((p : Int) * 3 + q).toNat = p * 3 + q := by
  refine ⟨IntWalk.i64_in _ (by omega), IntWalk.i64_in _ (by omega), by omega, by omega, by omega⟩

/-- what lies while a closure's rounds go. -/
def Cx (Z PD g M gm c : Nat) (pv : Array Value) (zs us : List Int) (w W : World) : Prop :=
  lies.Lies W (Z + 1) 72 pv ∧ lies.Lies W PD 39 #[.int .i64 4, .slice (some ⟨g, 0, none⟩) 16 16] ∧ lies.Lies W M 39 #[.int .i64 3, .slice (some ⟨gm, 0, none⟩) 9 c] ∧ lies.Lies W gm 22 (cellsOf zs) ∧ lies.Lies W g 22 (cellsOf us) ∧ w.grownBy W (some g)
theorem Cx.below {Z PD g M gm c : Nat} {pv : Array Value} {zs us : List Int} {w W X : World} (h : Cx Z PD g M gm c pv zs us w W) (k : Below W.heap.size W X) : Cx Z PD g M gm c pv zs us w X :=
  ⟨lies.on_call h.1 k, lies.on_call h.2.1 k, lies.on_call h.2.2.1 k, lies.on_call h.2.2.2.1 k, lies.on_call h.2.2.2.2.1 k, grown_below h.2.2.2.2.2 k h.2.2.2.2.2.size⟩
theorem Cx.put {Z PD g M gm c : Nat} {pv : Array Value} {zs us : List Int} {w W : World} (h : Cx Z PD g M gm c pv zs us w W) (hZ : Z + 1 ≠ g) (hD : PD ≠ g) (hM : M ≠ g) (hm : gm ≠ g) (q : Nat) (x : Int) : Cx Z PD g M gm c pv zs (us.set q x) w (W.setCell ⟨g, q, none⟩ (.int .i64 x)) := by
  have P := lies.on_put h.2.2.2.2.1 q (.int .i64 x)
  rw [cells_set] at P
  exact ⟨lies.on_far h.1 q hZ _, lies.on_far h.2.1 q hD _, lies.on_far h.2.2.1 q hM _, lies.on_far h.2.2.2.1 q hm _, P, grown_set h.2.2.2.2.2 q _⟩

set_option maxRecDepth 100000 in
set_option maxHeartbeats 8000000 in
theorem put_any (z0 z1 z2 z3 z4 z5 : Int) (p0 p1 p2 PD g : Nat) (us : List Int) (w : World) (hP : Pl w) (htop : Tops [z0, z1, z2, z3, z4, z5]) (hm : MayD 3 (fullT [z0, z1, z2, z3, z4, z5])) (h4 : ∀ i, i < 3 → [p0, p1, p2][i]?.getD 0 < 4)
    (hD : lies.Lies w PD 39 #[.int .i64 4, .slice (some ⟨g, 0, none⟩) 16 16]) (hG : lies.Lies w g 22 (cellsOf us)) (hl : us.length = 16) :
    Calls Tryd.prog 35 #[.agg #[.int .i64 z0, .int .i64 z1, .int .i64 z2, .int .i64 z3, .int .i64 z4, .int .i64 z5], .agg #[.int .i64 (p0 : Int), .int .i64 (p1 : Int), .int .i64 (p2 : Int)], .pointer (some ⟨PD, 0, none⟩)] w (Turned g (putK [z0, z1, z2, z3, z4, z5] (fun i => [p0, p1, p2][i]?.getD 0) us 9) w) := by
  have HT := Lib.hid htop
  have HM := Lib.hid hm
  have H4 := Lib.hid h4
  have HL := Lib.hid hl
  have HIX := Lib.hid (fun (i : Nat) (hi : i < 3) (W : World) => index_three p0 p1 p2 i hi W)
  have hPi : ∀ i, i < 3 → [(p0 : Int), p1, p2][i]?.getD 0 = (([p0, p1, p2][i]?.getD 0 : Nat) : Int) := fun i hi => by
    rcases (by omega : i = 0 ∨ i = 1 ∨ i = 2) with rfl | rfl | rfl <;> rfl
  have HPI := Lib.hid hPi
  have DB := bound.up2 w (.cells #[.int .i64 z0, .int .i64 z1, .int .i64 z2, .int .i64 z3, .int .i64 z4, .int .i64 z5] 24) (.cells #[.int .i64 (p0 : Int), .int .i64 (p1 : Int), .int .i64 (p2 : Int)] 72)
  have D0 := lies.on_alloc (lies.made w 24 #[.int .i64 z0, .int .i64 z1, .int .i64 z2, .int .i64 z3, .int .i64 z4, .int .i64 z5]) (.cells #[.int .i64 (p0 : Int), .int .i64 (p1 : Int), .int .i64 (p2 : Int)] 72)
  have D1 := lies.made_at (w.alloc (.cells #[.int .i64 z0, .int .i64 z1, .int .i64 z2, .int .i64 z3, .int .i64 z4, .int .i64 z5] 24)) 72 #[.int .i64 (p0 : Int), .int .i64 (p1 : Int), .int .i64 (p2 : Int)] (w.heap.size + 1) (by simp)
  have P0 := hP.on DB
  have hgw := lies.lt hG
  have hDw := lies.lt hD
  have hDg := ne_type hG hD (by decide)
  replace hD := lies.on_call hD DB
  replace hG := lies.on_call hG DB
  have GB : w.grownBy ((w.alloc (.cells #[.int .i64 z0, .int .i64 z1, .int .i64 z2, .int .i64 z3, .int .i64 z4, .int .i64 z5] 24)).alloc (.cells #[.int .i64 (p0 : Int), .int .i64 (p1 : Int), .int .i64 (p2 : Int)] 72)) (some g) := grown_below (grown_refl w _) DB (Nat.le_refl _)
  clear hP htop hm h4 hl DB hPi
  go_enter Tryd.func35, Tryd.ntmps35
  obtain ⟨⟨e0, e1, e2, e3, e4, e5⟩, ef⟩ := six_cells D0
  clear ef
  have el := lies.lt D0
  go_wp2_with fail
  clear e0 e1 e2 e3 e4 e5 el D0
  generalize ((w.alloc (.cells #[.int .i64 z0, .int .i64 z1, .int .i64 z2, .int .i64 z3, .int .i64 z4, .int .i64 z5] 24)).alloc (.cells #[.int .i64 (p0 : Int), .int .i64 (p1 : Int), .int .i64 (p2 : Int)] 72)) = w1 at D1 P0 hD hG GB ⊢
  refine (matrix_any z0 z1 z2 z3 z4 z5 w1 P0 HT.out).mono ?_
  rintro e w2 ⟨hB, na, aa, la, ca, zs, f, rfl, hR, hK⟩
  obtain ⟨rfl, rfl, rfl⟩ : na = 3 ∧ zs = fullT [z0, z1, z2, z3, z4, z5] ∧ f = 0 := by
    rcases hR with ⟨_, h1, h2, h3⟩ | ⟨n, _⟩
    · exact ⟨h1, h2, h3⟩
    · exact (n HM.out).elim
  obtain ⟨gm, hgm, rfl, rfl, hGM⟩ : ∃ gm, w1.heap.size ≤ gm ∧ aa = some ⟨gm, 0, none⟩ ∧ la = 9 ∧ lies.Lies w2 gm 22 (cellsOf (fullT [z0, z1, z2, z3, z4, z5])) := by
    rcases hK with ⟨_, _, _, h⟩ | ⟨gm, h1, h2, h3, h4⟩
    · cases h
    · exact ⟨gm, h1, h2, h3, h4⟩
  clear hR hK P0
  have hgg : gm ≠ g := by have := GB.size; omega
  replace D1 := lies.on_call D1 hB
  replace hD := lies.on_call hD hB
  replace hG := lies.on_call hG hB
  replace GB := grown_below GB hB GB.size
  clear hB hgm
  have c0 := lies.cell D1 0
  have c1 := lies.cell D1 1
  have c2 := lies.cell D1 2
  have cl := lies.lt D1
  have A0 : Cx w.heap.size PD g w2.heap.size gm ca #[.int .i64 (p0 : Int), .int .i64 (p1 : Int), .int .i64 (p2 : Int)] (fullT [z0, z1, z2, z3, z4, z5]) (putK [z0, z1, z2, z3, z4, z5] (fun i => [p0, p1, p2][i]?.getD 0) us (3 * 0)) w (w2.alloc (.cells #[.int .i64 3, .slice (some ⟨gm, 0, none⟩) 9 ca] 39)) :=
    ⟨lies.on_alloc D1 _, lies.on_alloc hD _, lies.made _ _ _, lies.on_alloc hGM _, lies.on_alloc hG _, grown_below GB (bound.up1 w2 _) GB.size⟩
  have hMg : w2.heap.size ≠ g := by have := GB.size; omega
  have hZg : w.heap.size + 1 ≠ g := by omega
  clear D1 hD hGM hG GB
  go_wp2_with fail
  clear c0 c1 c2 cl
  generalize w2.heap.size = M at A0 hMg ⊢
  generalize w2.alloc (.cells #[.int .i64 3, .slice (some ⟨gm, 0, none⟩) 9 ca] 39) = w3 at A0 ⊢
  generalize hZ : w.heap.size = Z at A0 hZg ⊢
  clear hZ hgw hDw
  go_loopw [18] (fun i wr => ∃ p : Nat, p ≤ 3 ∧ i = .int .i64 p ∧ Cx Z PD g M gm ca #[.int .i64 (p0 : Int), .int .i64 (p1 : Int), .int .i64 (p2 : Int)] (fullT [z0, z1, z2, z3, z4, z5]) (putK [z0, z1, z2, z3, z4, z5] (fun i => [p0, p1, p2][i]?.getD 0) us (3 * p)) w wr) (fun i _ => 3 - (intOf i).toNat)
  case atStart => exact ⟨0, Nat.zero_le _, rfl, A0⟩
  case round =>
    clear A0
    obtain ⟨p, hp, rfl, hA⟩ := hrel
    by_cases hp3 : p < 3
    · have hix := HIX.out p hp3 wr
      rw [HPI.out p hp3] at hix
      have hP4 := H4.out p hp3
      have HPP := Lib.hid (show ∀ i, i = p → [p0, p1, p2][i]?.getD 0 = [p0, p1, p2][p]?.getD 0 from fun i e => by rw [e])
      generalize [p0, p1, p2][p]?.getD 0 = pp at hix hP4 HPP
      have c0 := lies.cell hA.1 0
      have c1 := lies.cell hA.1 1
      have c2 := lies.cell hA.1 2
      have cl := lies.lt hA.1
      go_wp2_with fail
      clear c0 c1 c2 cl hix
      have hpi : (p : Int) < 3 := by omega
      simp only [hpi, decide_true]
      go_loopw [23] (fun j wr => ∃ q : Nat, q ≤ 3 ∧ j = .int .i64 q ∧ Cx Z PD g M gm ca #[.int .i64 (p0 : Int), .int .i64 (p1 : Int), .int .i64 (p2 : Int)] (fullT [z0, z1, z2, z3, z4, z5]) (putK [z0, z1, z2, z3, z4, z5] (fun i => [p0, p1, p2][i]?.getD 0) us (3 * p + q)) w wr) (fun j _ => 3 - (intOf j).toNat)
      case atStart => exact ⟨0, Nat.zero_le _, rfl, hA⟩
      case round =>
        clear hA
        obtain ⟨q, hq, rfl, hA⟩ := hrel
        by_cases hq3 : q < 3
        · have hix := HIX.out q hq3 wr
          rw [HPI.out q hq3] at hix
          have hQ4 := H4.out q hq3
          have hup := putK_up [z0, z1, z2, z3, z4, z5] (fun i => [p0, p1, p2][i]?.getD 0) us (i := p) hq3
          rw [HPP.out p rfl] at hup
          have hln := (putK_length [z0, z1, z2, z3, z4, z5] (fun i => [p0, p1, p2][i]?.getD 0) us (3 * p + q)).trans HL.out
          generalize [p0, p1, p2][q]?.getD 0 = qq at hix hQ4 hup
          generalize putK [z0, z1, z2, z3, z4, z5] (fun i => [p0, p1, p2][i]?.getD 0) us (3 * p + q) = vs at hA hup hln
          have h16 : pp * 4 + qq < 16 := by omega
          have h9 : p * 3 + q < 9 := by omega
          have hx := fun W (k : Cx Z PD g M gm ca #[.int .i64 (p0 : Int), .int .i64 (p1 : Int), .int .i64 (p2 : Int)] (fullT [z0, z1, z2, z3, z4, z5]) vs w W) => (lies.cell k.2.2.2.1 (p * 3 + q)).trans (cells_at (fullT [z0, z1, z2, z3, z4, z5]) (p * 3 + q) h9)
          have hx2 := fun vs W (k : Cx Z PD g M gm ca #[.int .i64 (p0 : Int), .int .i64 (p1 : Int), .int .i64 (p2 : Int)] (fullT [z0, z1, z2, z3, z4, z5]) vs w W) => (lies.cell k.2.2.2.1 (p * 3 + q)).trans (cells_at (fullT [z0, z1, z2, z3, z4, z5]) (p * 3 + q) h9)
          clear hx
          unfold setT at hup
          generalize (fullT [z0, z1, z2, z3, z4, z5])[p * 3 + q]?.getD 0 = x at hup hx2
          have hz := (lies.cell hA.2.2.2.2.1 (pp * 4 + qq)).trans (cells_at vs (pp * 4 + qq) (by omega))
          generalize vs[pp * 4 + qq]?.getD 0 = y at hup hz
          have hf := lies.free hA.2.2.2.2.1 (pp * 4 + qq)
          have HUP := Lib.hid hup
          have HLN := Lib.hid hln
          have HX := Lib.hid hx2
          clear hup hln hx2
          obtain ⟨d0, d1, d2, d3, d4⟩ := lies.two hA.2.1
          obtain ⟨y1, y2, y3, y4, y5⟩ := place4 hP4 hQ4
          go_wp2_with fail
          clear d0 d1 d2 d3 d4 hix
          have hgl := lies.lt hA.2.2.2.2.1
          have S0 : ∀ vs W, Cx Z PD g M gm ca #[.int .i64 (p0 : Int), .int .i64 (p1 : Int), .int .i64 (p2 : Int)] (fullT [z0, z1, z2, z3, z4, z5]) vs w W → W.cell? ⟨PD, 1, none⟩ = some (.slice (some ⟨g, 0, none⟩) 16 16) ∧ W.cell? ⟨M, 0, none⟩ = some (.int .i64 3) ∧ W.cell? ⟨M, 1, none⟩ = some (.slice (some ⟨gm, 0, none⟩) 9 ca) ∧ W.cell? ⟨gm, p * 3 + q, none⟩ = some (.int .i64 x) := fun vs W k => ⟨(lies.pair k.2.1).2, (lies.pair k.2.2.1).1, (lies.pair k.2.2.1).2, HX.out vs W k⟩
          have HS0 := Lib.hid S0
          have hs3 := S0 _ _ (hA.below (dbm.drawn1 (Below.refl wr.heap.size wr)))
          clear S0
          refine wp_region_held_drew (S := fun W => W.cell? ⟨PD, 1, none⟩ = some (.slice (some ⟨g, 0, none⟩) 16 16) ∧ W.cell? ⟨M, 0, none⟩ = some (.int .i64 3) ∧ W.cell? ⟨M, 1, none⟩ = some (.slice (some ⟨gm, 0, none⟩) 9 ca) ∧ W.cell? ⟨gm, p * 3 + q, none⟩ = some (.int .i64 x)) (by kernel_rfl) hs3 (fun hHeld => ?_)
          clear hs3
          obtain ⟨x1, x2, x3, x4, x5⟩ := place3 hp3 hq3
          refine wpAnyH_take (i := 0) (v := ?_) rfl (by kernel_rfl) (by kernel_rfl) (by kernel_rfl) (fun _ _ _ h => h) (Or.inl ⟨by rfl, ?_⟩) hHeld ?_
          rotate_left
          · intro w hSw; obtain ⟨s1, s2, s3, s4⟩ := hSw; go_simp; try with_reducible rfl
          try simp only [Act.put, List.getElem_toArray, List.getElem_cons_zero, List.getElem_cons_succ, List.setIfInBounds_toArray, List.set_cons_zero, List.set_cons_succ]
          refine wpAnyH_take (i := 1) (v := ?_) rfl (by kernel_rfl) (by kernel_rfl) (by kernel_rfl) (fun _ _ _ h => h) (Or.inl ⟨by rfl, ?_⟩) hHeld ?_
          rotate_left
          · intro w hSw; obtain ⟨s1, s2, s3, s4⟩ := hSw; go_simp; try with_reducible rfl
          try simp only [Act.put, List.getElem_toArray, List.getElem_cons_zero, List.getElem_cons_succ, List.setIfInBounds_toArray, List.set_cons_zero, List.set_cons_succ]
          refine wpAnyH_take (i := 2) (v := ?_) rfl (by kernel_rfl) (by kernel_rfl) (by kernel_rfl) (fun _ _ _ h => h) (Or.inl ⟨by rfl, ?_⟩) hHeld ?_
          rotate_left
          · intro w hSw; obtain ⟨s1, s2, s3, s4⟩ := hSw; go_simp; try with_reducible rfl
          try simp only [Act.put, List.getElem_toArray, List.getElem_cons_zero, List.getElem_cons_succ, List.setIfInBounds_toArray, List.set_cons_zero, List.set_cons_succ]
          refine wpAnyH_take (i := 3) (v := ?_) rfl (by kernel_rfl) (by kernel_rfl) (by kernel_rfl) (fun _ _ _ h => h) (Or.inl ⟨by rfl, ?_⟩) hHeld ?_
          rotate_left
          · intro w hSw; obtain ⟨s1, s2, s3, s4⟩ := hSw; go_simp; try with_reducible rfl
          try simp only [Act.put, List.getElem_toArray, List.getElem_cons_zero, List.getElem_cons_succ, List.setIfInBounds_toArray, List.set_cons_zero, List.set_cons_succ]
          refine wpAnyH_take (i := 4) (v := ?_) rfl (by kernel_rfl) (by kernel_rfl) (by kernel_rfl) (fun _ _ _ h => h) (Or.inl ⟨by rfl, ?_⟩) hHeld ?_
          rotate_left
          · intro w hSw; obtain ⟨s1, s2, s3, s4⟩ := hSw; go_simp; try with_reducible rfl
          try simp only [Act.put, List.getElem_toArray, List.getElem_cons_zero, List.getElem_cons_succ, List.setIfInBounds_toArray, List.set_cons_zero, List.set_cons_succ]
          refine wpAnyH_take (i := 5) (v := ?_) rfl (by kernel_rfl) (by kernel_rfl) (by kernel_rfl) (fun _ _ _ h => h) (Or.inl ⟨by rfl, ?_⟩) hHeld ?_
          rotate_left
          · intro w hSw; obtain ⟨s1, s2, s3, s4⟩ := hSw; go_simp; try with_reducible rfl
          try simp only [Act.put, List.getElem_toArray, List.getElem_cons_zero, List.getElem_cons_succ, List.setIfInBounds_toArray, List.set_cons_zero, List.set_cons_succ]
          refine wpAnyH_take (i := 6) (v := ?_) rfl (by kernel_rfl) (by kernel_rfl) (by kernel_rfl) (fun _ _ _ h => h) (Or.inl ⟨by rfl, ?_⟩) hHeld ?_
          rotate_left
          · intro w hSw; obtain ⟨s1, s2, s3, s4⟩ := hSw; go_simp; try with_reducible rfl
          try simp only [Act.put, List.getElem_toArray, List.getElem_cons_zero, List.getElem_cons_succ, List.setIfInBounds_toArray, List.set_cons_zero, List.set_cons_succ]
          refine wpAnyH_take (i := 8) (v := ?_) rfl (by kernel_rfl) (by kernel_rfl) (by kernel_rfl) (fun _ _ _ h => h) (Or.inl ⟨by rfl, ?_⟩) hHeld ?_
          rotate_left
          · intro w hSw; obtain ⟨s1, s2, s3, s4⟩ := hSw; go_simp; try with_reducible rfl
          try simp only [Act.put, List.getElem_toArray, List.getElem_cons_zero, List.getElem_cons_succ, List.setIfInBounds_toArray, List.set_cons_zero, List.set_cons_succ]
          refine wpAnyH_take (i := 9) (v := ?_) rfl (by kernel_rfl) (by kernel_rfl) (by kernel_rfl) (fun _ _ _ h => h) (Or.inl ⟨by rfl, ?_⟩) hHeld ?_
          rotate_left
          · intro w hSw; obtain ⟨s1, s2, s3, s4⟩ := hSw; go_simp; try with_reducible rfl
          try simp only [Act.put, List.getElem_toArray, List.getElem_cons_zero, List.getElem_cons_succ, List.setIfInBounds_toArray, List.set_cons_zero, List.set_cons_succ]
          refine wpAnyH_take (i := 10) (v := ?_) rfl (by kernel_rfl) (by kernel_rfl) (by kernel_rfl) (fun _ _ _ h => h) (Or.inl ⟨by rfl, ?_⟩) hHeld ?_
          rotate_left
          · intro w hSw; obtain ⟨s1, s2, s3, s4⟩ := hSw; go_simp; try with_reducible rfl
          try simp only [Act.put, List.getElem_toArray, List.getElem_cons_zero, List.getElem_cons_succ, List.setIfInBounds_toArray, List.set_cons_zero, List.set_cons_succ]
          refine wpAnyH_take (i := 11) (v := ?_) rfl (by kernel_rfl) (by kernel_rfl) (by kernel_rfl) (fun _ _ _ h => h) (Or.inl ⟨by rfl, ?_⟩) hHeld ?_
          rotate_left
          · intro w hSw; obtain ⟨s1, s2, s3, s4⟩ := hSw; go_simp; try with_reducible rfl
          try simp only [Act.put, List.getElem_toArray, List.getElem_cons_zero, List.getElem_cons_succ, List.setIfInBounds_toArray, List.set_cons_zero, List.set_cons_succ]
          refine wpAnyH_take (i := 12) (v := ?_) rfl (by kernel_rfl) (by kernel_rfl) (by kernel_rfl) (fun _ _ _ h => h) (Or.inl ⟨by rfl, ?_⟩) hHeld ?_
          rotate_left
          · intro w hSw; obtain ⟨s1, s2, s3, s4⟩ := hSw; go_simp; try with_reducible rfl
          try simp only [Act.put, List.getElem_toArray, List.getElem_cons_zero, List.getElem_cons_succ, List.setIfInBounds_toArray, List.set_cons_zero, List.set_cons_succ]
          refine wpAnyH_take (i := 13) (v := ?_) rfl (by kernel_rfl) (by kernel_rfl) (by kernel_rfl) (fun _ _ _ h => h) (Or.inl ⟨by rfl, ?_⟩) hHeld ?_
          rotate_left
          · intro w hSw; obtain ⟨s1, s2, s3, s4⟩ := hSw; go_simp; try with_reducible rfl
          try simp only [Act.put, List.getElem_toArray, List.getElem_cons_zero, List.getElem_cons_succ, List.setIfInBounds_toArray, List.set_cons_zero, List.set_cons_succ]
          refine wpAnyH_take (i := 14) (v := ?_) rfl (by kernel_rfl) (by kernel_rfl) (by kernel_rfl) (fun _ _ _ h => h) (Or.inl ⟨by rfl, ?_⟩) hHeld ?_
          rotate_left
          · intro w hSw; obtain ⟨s1, s2, s3, s4⟩ := hSw; go_simp; try with_reducible rfl
          try simp only [Act.put, List.getElem_toArray, List.getElem_cons_zero, List.getElem_cons_succ, List.setIfInBounds_toArray, List.set_cons_zero, List.set_cons_succ]
          refine wpAnyH_take (i := 15) (v := ?_) rfl (by kernel_rfl) (by kernel_rfl) (by kernel_rfl) (fun _ _ _ h => h) (Or.inl ⟨by rfl, ?_⟩) hHeld ?_
          rotate_left
          · intro w hSw; obtain ⟨s1, s2, s3, s4⟩ := hSw; go_simp; try with_reducible rfl
          try simp only [Act.put, List.getElem_toArray, List.getElem_cons_zero, List.getElem_cons_succ, List.setIfInBounds_toArray, List.set_cons_zero, List.set_cons_succ]
          refine wpAnyH_take (i := 16) (v := ?_) rfl (by kernel_rfl) (by kernel_rfl) (by kernel_rfl) (fun _ _ _ h => h) (Or.inl ⟨by rfl, ?_⟩) hHeld ?_
          rotate_left
          · intro w hSw; obtain ⟨s1, s2, s3, s4⟩ := hSw; go_simp; try with_reducible rfl
          try simp only [Act.put, List.getElem_toArray, List.getElem_cons_zero, List.getElem_cons_succ, List.setIfInBounds_toArray, List.set_cons_zero, List.set_cons_succ]
          refine wpAnyH_take (i := 17) (v := ?_) rfl (by kernel_rfl) (by kernel_rfl) (by kernel_rfl) (fun _ _ _ h => h) (Or.inl ⟨by rfl, ?_⟩) hHeld ?_
          rotate_left
          · intro w hSw; obtain ⟨s1, s2, s3, s4⟩ := hSw; go_simp; try with_reducible rfl
          try simp only [Act.put, List.getElem_toArray, List.getElem_cons_zero, List.getElem_cons_succ, List.setIfInBounds_toArray, List.set_cons_zero, List.set_cons_succ]
          refine wpAnyH_ready (rs := [7]) (by kernel_rfl) (by simp) (AllReadyH.cons rfl (fun K hK => ?_) AllReadyH.nil)
          go_simp
          refine hK.out _ _ (HS0.out _ _ (hA.below (dbm.drawn1 (Below.refl wr.heap.size wr)))) (fun hNew => ?_)
          clear hHeld hK K
          have hHeld := hNew
          clear hNew
          try simp only [Act.put, List.getElem_toArray, List.getElem_cons_zero, List.getElem_cons_succ, List.setIfInBounds_toArray, List.set_cons_zero, List.set_cons_succ]
          refine wpAnyH_ready (rs := [18]) (by kernel_rfl) (by simp) (AllReadyH.cons rfl (fun K hK => ?_) AllReadyH.nil)
          go_simp
          refine hK.out _ _ (HS0.out _ _ (hA.below (dbm.drawn1 (Below.refl wr.heap.size wr)))) (fun hNew => ?_)
          clear hHeld hK K
          have hHeld := hNew
          clear hNew
          try simp only [Act.put, List.getElem_toArray, List.getElem_cons_zero, List.getElem_cons_succ, List.setIfInBounds_toArray, List.set_cons_zero, List.set_cons_succ]
          refine wpAnyH_take (i := 19) (v := ?_) rfl (by kernel_rfl) (by kernel_rfl) (by kernel_rfl) (fun _ _ _ h => h) (Or.inl ⟨by rfl, ?_⟩) hHeld ?_
          rotate_left
          · intro w hSw; obtain ⟨s1, s2, s3, s4⟩ := hSw; go_simp; try with_reducible rfl
          try simp only [Act.put, List.getElem_toArray, List.getElem_cons_zero, List.getElem_cons_succ, List.setIfInBounds_toArray, List.set_cons_zero, List.set_cons_succ]
          refine wpAnyH_ready (rs := [20]) (by kernel_rfl) (by simp) (AllReadyH.cons rfl (fun K hK => ?_) AllReadyH.nil)
          go_simp
          have hmin := min_lsr y x
          rw [hmin]
          have A4 := (hA.put hZg hDg.symm hMg hgg (pp * 4 + qq) (lsr y x)).below (dbm.drawn1 (Below.refl _ _))
          refine hK.out _ _ (HS0.out _ _ A4) (fun hNew => ?_)
          clear hHeld hK K hNew HS0 hz hf hA x1 x2 x3 x4 x5 y1 y2 y3 y4 y5
          refine wpAnyH_done (by kernel_rfl) ?_ _
          generalize (wr.setCell ⟨g, pp * 4 + qq, none⟩ (.int .i64 (lsr y x))).drew = w6 at A4 ⊢
          go_wp2_with fail
          go_roundw
          case rel => exact ⟨q + 1, by omega, by go_num, by rw [HUP.out]; exact A4⟩
          case measure => simp [intOf]; omega
        · obtain rfl : q = 3 := by omega
          go_wp2_with fail
          go_roundw
          case rel => exact ⟨p + 1, by omega, by go_num, hA⟩
          case measure => simp [intOf]; omega
    · obtain rfl : p = 3 := by omega
      go_wp2_with fail
      go_end0
      exact ⟨rfl, hA.2.2.2.2.1, hA.2.2.2.2.2⟩

end Go.Proofs.YtngjkebmilpemaaDoor.comp
