/-
  Whether times keep a matrix (dbm.Keeps), where all may be and they are as many as the clocks but one: the walk; the conditions: they are ints, in memory.
-/
import Derived.Test.YtlagnbbbokgdfaaDbmKeeps
namespace Go.Proofs.Ytlagnbbbokgdfaa.dbm
open Go.RowKit Go.Shelf num rat
open bound hiding up
attribute [local go_sem] Oper.semAt_some
set_option linter.unusedVariables false
set_option linter.unusedSimpArgs false

/-- the answer for two clocks. -/
def kp (n : Nat) (ts : List Int) (qs : List (Int × Int)) (i j : Nat) : Bool := kpV (pr qs i).1 (pr qs i).2 (pr qs j).1 (pr qs j).2 (tat ts n i j)
/-- do times keep a matrix? -/
def keptAll (n : Nat) (ts : List Int) (qs : List (Int × Int)) : Prop := ∀ i j, i < n → j < n → kp n ts qs i j = true
def Kps (n : Nat) (ts : List Int) (rs : List (Int × Int)) (w : World) (e : Ending) (w' : World) : Prop :=
  Below w.heap.size w w' ∧ ∃ r : Bool, e = .returned (.tuple #[.bool r, .int .i64 0]) ∧ (r = true ↔ keptAll n ts ((0, 1) :: rs))
theorem mk_alloc {B : Nat} {n : Int} {sv : Value} {W : World} (h : Mik B n sv W) (o : Obj) : Mik B n sv (W.alloc o) := h.below ((Below.refl _ W).alloc (Nat.le_refl _) _)

theorem own_rowR {W : World} {base g m cap : Nat} {t : TypeId} {qs : List (Int × Int)} (h : W.ownsRow base t 2 (.slice (some ⟨g, 0, none⟩) m cap) m (flat qs)) : RowR W g 0 qs := fun k hk => by
  have hl : m * 2 = qs.length * 2 := by have := h.1; rw [flat_length] at this; omega
  obtain ⟨a, b⟩ := flat_at qs k hk
  exact ⟨by rw [Nat.zero_add]; exact (h.cellAt (k * 2) (by omega)).trans a, by rw [Nat.zero_add]; exact (h.cellAt (k * 2 + 1) (by omega)).trans b⟩
theorem own_some {W : World} {base m : Nat} {t : TypeId} {v : Value} {xs : List Value} (h : W.ownsRow base t 2 v m xs) (hn : v ≠ .slice none 0 0) : ∃ g cap, v = .slice (some ⟨g, 0, none⟩) m cap ∧ base ≤ g ∧ g < W.heap.size := by
  rcases h.2 with ⟨rfl, _⟩ | ⟨g, cap, cur, rfl, hg, hc, _⟩
  · exact (hn rfl).elim
  · exact ⟨g, cap, rfl, hg, (Array.getElem?_eq_some_iff.1 hc).1⟩
theorem grown_b {W X : World} {o : Obj} (k : (W.alloc o).grownBy X (some W.heap.size)) : Below W.heap.size W X := ((Below.refl _ W).alloc (Nat.le_refl _) o).grown k (by simp) (fun j e => by cases e; exact Nat.le_refl _)
theorem less_one {n : Nat} (h0 : 0 < n) (hn : n ≤ 4) : wrap64 ((n : Int) - 1) = (n : Int) - 1 ∧ IntKind.i64.wrap ((n : Int) - 1) = (n : Int) - 1 := by
  refine ⟨?_, IntWalk.i64_in _ (by omega)⟩
  unfold wrap64; omega

theorem keeps_in (a b c d x : Int) (r : Bool) (w : World) (a1 : -9223372036854775808 ≤ a) (a2 : a ≤ 9223372036854775807) (c1 : -9223372036854775808 ≤ c) (c2 : c ≤ 9223372036854775807) (h : MayR a b) (h' : MayR c d) (hx : Fine x) (hr : kpV a b c d x = r) :
    Calls Try.prog 26 #[.agg #[.int .i64 (a), .int .i64 (b)], .agg #[.int .i64 (c), .int .i64 (d)], .int .i64 x] w fun e w' => e = .returned (.tuple #[.bool r, .int .i64 0]) ∧ Below w.heap.size w w' := by
  have := keeps3_any a b c d x w a1 a2 c1 c2 (by unfold Fine at hx; omega)
  have hn : ¬ badB x := fun k => by
    unfold badB at k
    rcases hx with hx | hx
    · exact k.1 hx
    · exact k.2 (by unfold May; omega)
  unfold kpE at this
  rw [if_pos ⟨h, h'⟩, if_neg hn, hr] at this
  exact this
theorem pr_cons (x : Int × Int) (rs : List (Int × Int)) (k : Nat) : pr (x :: rs) (k + 1) = pr rs k := by simp [pr]
theorem with_zero {rs : List (Int × Int)} (hi : IntsR rs) (hm : MayT rs) : IntsR ((0, 1) :: rs) ∧ MayT ((0, 1) :: rs) := by
  refine ⟨fun k hk => ?_, fun k hk => ?_⟩
  · cases k with
    | zero => exact (show ((-9223372036854775808 : Int) ≤ 0 ∧ (0 : Int) ≤ 9223372036854775807) ∧ ((-9223372036854775808 : Int) ≤ 1 ∧ (1 : Int) ≤ 9223372036854775807) from by omega)
    | succ k => rw [pr_cons]; exact hi k (by simpa using hk)
  · cases k with
    | zero => exact (show MayR 0 1 from ⟨by decide, by decide, by decide, by decide, by decide⟩)
    | succ k => rw [pr_cons]; exact hm k (by simpa using hk)
theorem all_pairs {n i j : Nat} (h0 : 0 < n) (hn : n ≤ 4) (hi : i < n) (hj : j < n) : (⟨(i, j), hi, hj⟩ : Cl n) ∈ upto (nth n h0) (n * n) := by
  refine List.mem_map.2 ⟨i * n + j, List.mem_range.2 (place_le hn hi hj), Subtype.ext (Prod.ext ?_ ?_)⟩
  · show (i * n + j) / n % n = i
    rw [Nat.mul_comm, Nat.mul_add_div h0, Nat.div_eq_of_lt hj, Nat.add_zero, Nat.mod_eq_of_lt hi]
  · show (i * n + j) % n = j
    rw [Nat.mul_comm, Nat.mul_add_mod, Nat.mod_eq_of_lt hj]
/-- what lies there while times are held against bounds. -/
def Mil (n b0 off0 cap0 g capg G : Nat) (ts : List Int) (qs : List (Int × Int)) (W : World) : Prop :=
  lies.Lies W G 32 #[.slice (some ⟨g, 0, none⟩) n capg] ∧ lies.Lies W (G + 1) 54 #[.int .i64 n, .slice (some ⟨b0, off0, none⟩) (n * n) cap0] ∧ RowR W g 0 qs ∧ Row W b0 off0 ts ∧ g < W.heap.size ∧ b0 < W.heap.size
theorem Mil.below {n b0 off0 cap0 g capg G : Nat} {ts : List Int} {qs : List (Int × Int)} {W X : World} (h : Mil n b0 off0 cap0 g capg G ts qs W) (k : Below W.heap.size W X) : Mil n b0 off0 cap0 g capg G ts qs X :=
  ⟨lies.on_call h.1 k, lies.on_call h.2.1 k, h.2.2.1.below k h.2.2.2.2.1, h.2.2.2.1.below k h.2.2.2.2.2, Nat.lt_of_lt_of_le h.2.2.2.2.1 k.size, Nat.lt_of_lt_of_le h.2.2.2.2.2 k.size⟩
/-- the cells that a round reads. -/
theorem Mil.cells {n b0 off0 cap0 g capg G i j : Nat} {ts : List Int} {qs : List (Int × Int)} {W X : World} (h : Mil n b0 off0 cap0 g capg G ts qs W) (hn : n ≤ 4) (hi : i < n) (hj : j < n) (hl : ts.length = n * n) (hq : qs.length = n) (k : Below W.heap.size W X) :
    X.cell? ⟨G, 0, none⟩ = some (.slice (some ⟨g, 0, none⟩) n capg) ∧ X.cell? ⟨G + 1, 0, none⟩ = some (.int .i64 n) ∧ X.cell? ⟨G + 1, 1, none⟩ = some (.slice (some ⟨b0, off0, none⟩) (n * n) cap0) ∧
      X.cell? ⟨g, i * 2, none⟩ = some (.int .i64 (pr qs i).1) ∧ X.cell? ⟨g, i * 2 + 1, none⟩ = some (.int .i64 (pr qs i).2) ∧ X.cell? ⟨g, j * 2, none⟩ = some (.int .i64 (pr qs j).1) ∧ X.cell? ⟨g, j * 2 + 1, none⟩ = some (.int .i64 (pr qs j).2) ∧
      X.cell? ⟨b0, off0 + (i * n + j), none⟩ = some (.int .i64 (tat ts n i j)) := by
  obtain ⟨h1, h2, h3, h4, _⟩ := h.below k
  have a1 := h3 i (by omega)
  have a2 := h3 j (by omega)
  rw [Nat.zero_add] at a1 a2
  exact ⟨lies.cell h1 0, (lies.two h2).1, (lies.two h2).2.1, a1.1, a1.2, a2.1, a2.2, h4 _ (by rw [hl]; exact place_le hn hi hj)⟩
theorem own_below {β : Type} {B m : Nat} {w0 : World} (h1 : m ≤ B) (h2 : m ≤ w0.heap.size) : OwnFrom B (fun (_ : β) W => Below m w0 W) := fun s X Y r hs hg hr => hs.grown hg (Nat.le_trans h2 hs.size) (fun k e => Nat.le_trans h1 (hr k e).1)
theorem own_pure {β : Type} (B : Nat) (p : β → Prop) : OwnFrom B (fun (s : β) (_ : World) => p s) := fun s X Y r hs hg hr => hs

set_option maxRecDepth 100000 in
set_option maxHeartbeats 4000000 in
theorem dkeeps_ok (n b0 off0 cap0 len cap : Nat) (ao : Option Addr) (ts : List Int) (rs : List (Int × Int)) (w : World) (h0 : 0 < n) (hn : n ≤ 4) (hr : Row w b0 off0 ts) (hb0 : b0 < w.heap.size) (htop : Tops ts) (h : MayD n ts) (hl : ts.length = n * n)
    (hR : Rats w.heap.size w (.slice ao len cap) rs) (hrl : rs.length = len) (hi : IntsR rs) (hmt : MayT rs) (hd : len + 1 = n) :
    Calls Try.prog 9 #[.agg #[.int .i64 n, .slice (some ⟨b0, off0, none⟩) (n * n) cap0], .slice ao len cap] w (Kps n ts rs w) := by
  obtain ⟨D0, DB⟩ := mik n (.slice (some ⟨b0, off0, none⟩) (n * n) cap0) w
  have hI1 : law.Ints ((((w.alloc (.cells #[.int .i64 n, .slice (some ⟨b0, off0, none⟩) (n * n) cap0] 27)).alloc (.cells #[.bool false] 4)).alloc (.cells #[.int .i64 0] 22))).heap.size ((((w.alloc (.cells #[.int .i64 n, .slice (some ⟨b0, off0, none⟩) (n * n) cap0] 27)).alloc (.cells #[.bool false] 4)).alloc (.cells #[.int .i64 0] 22))) (.slice (some ⟨b0, off0, none⟩) (n * n) cap0) ts := .inr ⟨b0, off0, cap0, by rw [hl], by have := DB.size; omega, hr.below DB hb0⟩
  have hcell : ∀ k, k < len → ∃ b off, ao = some ⟨b, off, none⟩ ∧ b < w.heap.size ∧ RowR w b off rs := fun k hk => by
    rcases hR with ⟨_, rfl⟩ | ⟨b, off, c, e, hb, hc⟩
    · simp at hrl; omega
    · cases e; exact ⟨b, off, rfl, hb, hc⟩
  have hl3 : len ≤ 3 := by omega
  have HI := Lib.hid hI1
  have HR := Lib.hid hr
  have HT := Lib.hid htop
  have HM := Lib.hid h
  have HL := Lib.hid hl
  have HRR := Lib.hid hR
  have HRL := Lib.hid hrl
  have HN := Lib.hid hi
  have HMT := Lib.hid hmt
  have HC := Lib.hid hcell
  have HD := Lib.hid hd
  clear hI1 hr htop h hl hR hrl hi hmt hcell hd
  refine callsIn_wide (n := 4).1 ?_
  refine callsIn_of_wp_marks Try.func9 rfl trivial ?_ rfl
  simp only [Try.ntmps9, List.size_toArray, List.length_cons, List.length_nil, Nat.reduceAdd, Nat.reduceSub, Array.replicate_succ, Array.replicate_zero, List.push_toArray, List.append_toArray, List.nil_append, List.cons_append]
  gi_wp2
  refine ⟨trivial, callsIn_wide.2 ((check_ok (n : Int) _ ts _ HI.out HT.out HM.out).mono ?_)⟩
  rintro e w1 ⟨rfl, hB1⟩
  have E0 := D0.below hB1
  have EB := DB.trans (hB1.mono DB.size)
  clear D0 DB hB1
  gi_wp2
  gi_loopw [23] (fun i wr => ∃ k : Nat, k ≤ len ∧ i = .int .i64 k ∧ Mik w.heap.size n (.slice (some ⟨b0, off0, none⟩) (n * n) cap0) wr ∧ Below w.heap.size w wr)
    (fun i _ => len - (intOf i).toNat)
  case atStart => exact ⟨0, Nat.zero_le _, rfl, E0, EB⟩
  case round =>
    clear E0 EB
    obtain ⟨k, hk, rfl, hM, hB⟩ := hrel
    by_cases hkn : k < len
    · obtain ⟨b, off, hao, hb, hrow⟩ := HC.out k hkn
      obtain ⟨hc1, hc2⟩ := (hrow.below hB hb) k (by rw [HRL.out]; exact hkn)
      obtain ⟨⟨a1, a2⟩, ⟨a3, a4⟩⟩ := HN.out k (by rw [HRL.out]; exact hkn)
      have hmr := HMT.out k (by rw [HRL.out]; exact hkn)
      have hbw : b < wr.heap.size := by have := hB.size; omega
      clear hrow
      subst hao
      generalize hx : (pr rs k).1 = x at hc1 a1 a2 hmr
      generalize hy : (pr rs k).2 = y at hc2 a3 a4 hmr
      have HMR := Lib.hid hmr
      clear hmr hx hy
      gi_wp2
      refine ⟨trivial, callsIn_wide.2 ((check3_ok x y _ a1 a2 HMR.out).mono ?_)⟩
      rintro e w4 ⟨rfl, hB4⟩
      have F0 := (hM.below ((Below.refl _ wr).alloc (Nat.le_refl _) _)).below hB4
      have FB := (hB.alloc hB.size _).trans (hB4.mono (hB.alloc hB.size _).size)
      clear hM hB hB4 hc1 hc2
      gi_wp2
      go_roundw
      case rel => exact ⟨k + 1, by omega, by go_num, F0, FB⟩
      case measure => simp [intOf]; omega
    · obtain rfl : len = k := by omega
      obtain ⟨z1, z2⟩ := less_one h0 hn
      have z3 : ((len : Int) == (n : Int) - 1) = true := by have := HD.out; simp; omega
      obtain ⟨d0, d1, d2, d3, d4⟩ := lies.two hM.1
      obtain ⟨v', w', hrun, hown, hgrow, hvn⟩ := app_times wr.heap.size 32 (.slice (some ⟨wr.heap.size, 0, none⟩) 1 1) (.slice ao len cap) 1 w.heap.size [.int .i64 0, .int .i64 1] rs (wr.alloc (.cells #[.int .i64 0, .int .i64 1] 31)) (World.ownsRow_lit wr #[.int .i64 0, .int .i64 1] 1 (Nat.le_refl _) (by decide) rfl) (by simp) (HRR.out.below (hB.alloc hB.size _)) (by have := HD.out; have := HRL.out; omega) (by simp)
      have hBX := grown_b (o := .cells #[.int .i64 0, .int .i64 1] 31) hgrow
      have F0 := hM.below hBX
      have FB := hB.trans (hBX.mono hB.size)
      obtain ⟨g, capg, rfl, hg, hgw⟩ := own_some hown hvn
      have hlen : 1 + rs.length = n := by have := HD.out; have := HRL.out; omega
      have hq : RowR w' g 0 ((0, 1) :: rs) := own_rowR hown
      have HQ := Lib.hid hq
      rw [hlen] at hrun
      clear hq hown hvn hgrow hBX hlen
      gi_wp2_with (gi_at_builtin; refine append_run rfl (.tmp 40) (.tmp 41) 32 rfl _ _ _ _ rfl rfl hrun ?_; clear hrun hM hB d0 d1 d2 d3 d4; have e0 := lies.two F0.1; obtain ⟨d0, d1, d2, d3, d4⟩ := e0)
      refine ⟨trivial, (pairs_in Fence.wide 3 trivial rfl _ _ _ rfl rfl).mono ?_⟩
      rintro e w5 ⟨rfl, rfl⟩
      gi_wp2
      have V1 : Mil n b0 off0 cap0 g capg w'.heap.size ts ((0, 1) :: rs) (((w'.alloc (.cells #[.slice (some ⟨g, 0, none⟩) n capg] 32)).alloc (.cells #[.int .i64 n, .slice (some ⟨b0, off0, none⟩) (n * n) cap0] 54)).alloc (.cells #[.int .i64 n, .slice (some ⟨b0, off0, none⟩) (n * n) cap0] 54)) := ⟨lies.on_alloc (lies.on_alloc (lies.made _ _ _) _) _, lies.on_alloc (lies.made_at _ _ _ _ (World.size_alloc _ _)) _, HQ.out.below ((((Below.refl w'.heap.size w').alloc (Nat.le_refl _) _).alloc (by simp) _).alloc (by simp; omega) _) hgw, (HR.out.below FB hb0).below ((((Below.refl w'.heap.size w').alloc (Nat.le_refl _) _).alloc (by simp) _).alloc (by simp; omega) _) (by have := FB.size; omega), by simp; omega, by have := FB.size; simp; omega⟩
      have V2 : lies.Lies (((w'.alloc (.cells #[.slice (some ⟨g, 0, none⟩) n capg] 32)).alloc (.cells #[.int .i64 n, .slice (some ⟨b0, off0, none⟩) (n * n) cap0] 54)).alloc (.cells #[.int .i64 n, .slice (some ⟨b0, off0, none⟩) (n * n) cap0] 54)) (w'.heap.size + 1 + 1) 54 #[.int .i64 n, .slice (some ⟨b0, off0, none⟩) (n * n) cap0] := lies.made_at _ _ _ _ (by simp)
      have V3 : Mik w.heap.size n (.slice (some ⟨b0, off0, none⟩) (n * n) cap0) (((w'.alloc (.cells #[.slice (some ⟨g, 0, none⟩) n capg] 32)).alloc (.cells #[.int .i64 n, .slice (some ⟨b0, off0, none⟩) (n * n) cap0] 54)).alloc (.cells #[.int .i64 n, .slice (some ⟨b0, off0, none⟩) (n * n) cap0] 54)) := mk_alloc (mk_alloc (mk_alloc F0 _) _) _
      have V4 : Below w.heap.size w (((w'.alloc (.cells #[.slice (some ⟨g, 0, none⟩) n capg] 32)).alloc (.cells #[.int .i64 n, .slice (some ⟨b0, off0, none⟩) (n * n) cap0] 54)).alloc (.cells #[.int .i64 n, .slice (some ⟨b0, off0, none⟩) (n * n) cap0] 54)) := ((FB.alloc FB.size _).alloc (FB.alloc FB.size _).size _).alloc ((FB.alloc FB.size _).alloc (FB.alloc FB.size _).size _).size _
      have V5 : w'.heap.size + 1 + 1 < ((((w'.alloc (.cells #[.slice (some ⟨g, 0, none⟩) n capg] 32)).alloc (.cells #[.int .i64 n, .slice (some ⟨b0, off0, none⟩) (n * n) cap0] 54)).alloc (.cells #[.int .i64 n, .slice (some ⟨b0, off0, none⟩) (n * n) cap0] 54))).heap.size := by simp
      have hqn : ((0, 1) :: rs).length = n := by have := HD.out; have := HRL.out; simp; omega
      obtain ⟨hqi, hqm⟩ := with_zero HN.out HMT.out
      obtain ⟨qs, hqs⟩ : ∃ qs, qs = (0, 1) :: rs := ⟨_, rfl⟩
      rw [← hqs] at V1 hqn hqi hqm
      have HQS := Lib.hid hqs
      have HQN := Lib.hid hqn
      have HQI := Lib.hid hqi
      have HQM := Lib.hid hqm
      clear hqs hqn hqi hqm d0 d1 d2 d3 d4 F0 FB HQ z1 z2 z3
      refine wpIn_rangeFunc_ownG (F := Fence.wide) (n := 4) rfl (by omega) (gf := 45) (lb := #[.pointer (some ⟨w'.heap.size + 1 + 1, 0, none⟩)]) rfl trivial (enters_of Try.func45 (by kernel_rfl) rfl)
        (pairs_stops Fence.wide (4 - 1) trivial rfl (by omega) (w'.heap.size + 1 + 1) n b0 off0 cap0 h0 hn _ V2) KB.trans (KB.put V5) (Below.refl _ _) (fun _ => by rfl)
        (fun pre W => Below ((((w'.alloc (.cells #[.slice (some ⟨g, 0, none⟩) n capg] 32)).alloc (.cells #[.int .i64 n, .slice (some ⟨b0, off0, none⟩) (n * n) cap0] 54)).alloc (.cells #[.int .i64 n, .slice (some ⟨b0, off0, none⟩) (n * n) cap0] 54))).heap.size (((w'.alloc (.cells #[.slice (some ⟨g, 0, none⟩) n capg] 32)).alloc (.cells #[.int .i64 n, .slice (some ⟨b0, off0, none⟩) (n * n) cap0] 54)).alloc (.cells #[.int .i64 n, .slice (some ⟨b0, off0, none⟩) (n * n) cap0] 54)) W ∧ ∀ x ∈ pre, kp n ts qs x.1.1 x.1.2 = true)
        (fun co pre W => (Below w.heap.size w W ∧ lies.Lies W (w.heap.size + 1) 4 #[.bool false] ∧ lies.Lies W (w.heap.size + 1 + 1) 22 #[.int .i64 0]) ∧ co = .ret ∧ ∃ i j, i < n ∧ j < n ∧ kp n ts qs i j = false)
        (OwnFrom.and (own_below (Nat.le_refl _) (Nat.le_refl _)) (own_pure _ _))
        (fun co => OwnFrom.and (OwnFrom.and (own_below (by have := V4.size; exact this) (Nat.le_refl _)) (OwnFrom.and (own_lies _ _ _ (fun _ => _)) (own_lies _ _ _ (fun _ => _)))) (own_pure _ _))
        ⟨Below.refl _ _, fun x hx => absurd hx (by simp)⟩
        (fun x => { tmps := #[.agg #[.int .i64 n, .slice (some ⟨b0, off0, none⟩) (n * n) cap0], .slice ao len cap, .pointer (some ⟨w.heap.size, 0, none⟩), undef, .pointer (some ⟨w.heap.size + 1, 0, none⟩), .pointer (some ⟨w.heap.size + 1 + 1, 0, none⟩), .int .i64 0, undef, u8, u9, .pointer (some ⟨w'.heap.size, 0, none⟩), .pointer (some ⟨w'.heap.size + 1, 0, none⟩), .int .i64 (x.1.1 : Int), .int .i64 (x.1.2 : Int), undef, undef, .agg #[.int .i64 n, .slice (some ⟨b0, off0, none⟩) (n * n) cap0], .int .i64 0, .int .i64 0, .bool false, undef, .slice ao len cap, .int .i64 len, .int .i64 len, .bool false, u25, u26, u27, u28, u29, u30, u31, u32, .slice ao len cap, .int .i64 len, .pointer (some ⟨w.heap.size, 0, none⟩), .int .i64 n, .int .i64 ((n : Int) - 1), .bool false, .agg #[.int .i64 0, .int .i64 1], .slice (some ⟨wr.heap.size, 0, none⟩) 1 1, .slice ao len cap, .slice (some ⟨g, 0, none⟩) n capg, .agg #[.int .i64 n, .slice (some ⟨b0, off0, none⟩) (n * n) cap0], .agg #[.int .i64 n, .slice (some ⟨b0, off0, none⟩) (n * n) cap0], .agg #[.int .i64 n, .slice (some ⟨b0, off0, none⟩) (n * n) cap0], .func (.func 45) #[] #[.pointer (some ⟨w'.heap.size + 1 + 1, 0, none⟩)], .int .i64 (x.1.1 : Int), .int .i64 (x.1.2 : Int), undef, undef, undef, undef, undef, undef, undef, undef, undef, undef, undef, undef, undef, undef, undef, undef, undef, undef, undef, undef, undef], defers := [] }) ?assign ?body ?done ?stop
      case assign =>
        intro l x W K hK
        gi_wp2
        exact hK
      case body =>
        rintro l pre x0 W ⟨hW, hp⟩ _
        obtain ⟨⟨i, j⟩, hi, hj⟩ := x0
        dsimp only at hi hj
        have M1' := HQM.out i (by rw [HQN.out]; exact hi)
        have M2' := HQM.out j (by rw [HQN.out]; exact hj)
        obtain ⟨⟨a1, a2⟩, _⟩ := HQI.out i (by rw [HQN.out]; exact hi)
        obtain ⟨⟨c1, c2⟩, _⟩ := HQI.out j (by rw [HQN.out]; exact hj)
        have hfx : Fine (tat ts n i j) := HM.out.2.2.2 (i * n + j) (by rw [HL.out]; exact place_le hn hi hj)
        have hv : kpV (pr qs i).1 (pr qs i).2 (pr qs j).1 (pr qs j).2 (tat ts n i j) = kp n ts qs i j := rfl
        have kc := fun X (k : Below W.heap.size W X) => V1.cells hn hi hj HL.out HQN.out (hW.trans (k.mono hW.size))
        generalize (pr qs i).1 = a at M1' a1 a2 hv kc
        generalize (pr qs i).2 = b at M1' hv kc
        generalize (pr qs j).1 = c at M2' c1 c2 hv kc
        generalize (pr qs j).2 = d at M2' hv kc
        generalize tat ts n i j = x at hfx hv kc
        obtain ⟨r, hr⟩ : ∃ r, r = kp n ts qs i j := ⟨_, rfl⟩
        rw [← hr] at hv
        have M1 := Lib.hid M1'
        have M2 := Lib.hid M2'
        have HX := Lib.hid hfx
        have HV := Lib.hid hv
        have HKR := Lib.hid hr
        have KC := Lib.hid kc
        clear M1' M2' hfx hv hr kc
        gi_wp2
        refine region_round (Below W.heap.size W) l _ (by kernel_rfl) (by kernel_rfl) (fun ⟨_, _, h⟩ => h) (dbm.drawn1 (Below.refl _ _)) (fun hHeld => ?_)
        refine wpAnyH_take (i := 0) (v := ?_) rfl (by kernel_rfl) (by kernel_rfl) (by kernel_rfl) (fun _ _ _ h => h) (Or.inl ⟨by rfl, ?_⟩) hHeld ?_
        rotate_left
        · intro w hSw; obtain ⟨s0, s1, s2, s3, s4, s5, s6, s7⟩ := KC.out _ hSw; go_simp; try with_reducible rfl
        try simp only [Act.put, List.getElem_toArray, List.getElem_cons_zero, List.getElem_cons_succ, List.setIfInBounds_toArray, List.set_cons_zero, List.set_cons_succ]
        refine wpAnyH_take (i := 1) (v := ?_) rfl (by kernel_rfl) (by kernel_rfl) (by kernel_rfl) (fun _ _ _ h => h) (Or.inl ⟨by rfl, ?_⟩) hHeld ?_
        rotate_left
        · intro w hSw; obtain ⟨s0, s1, s2, s3, s4, s5, s6, s7⟩ := KC.out _ hSw; go_simp; try with_reducible rfl
        try simp only [Act.put, List.getElem_toArray, List.getElem_cons_zero, List.getElem_cons_succ, List.setIfInBounds_toArray, List.set_cons_zero, List.set_cons_succ]
        refine wpAnyH_take (i := 2) (v := ?_) rfl (by kernel_rfl) (by kernel_rfl) (by kernel_rfl) (fun _ _ _ h => h) (Or.inl ⟨by rfl, ?_⟩) hHeld ?_
        rotate_left
        · intro w hSw; obtain ⟨s0, s1, s2, s3, s4, s5, s6, s7⟩ := KC.out _ hSw; go_simp; try with_reducible rfl
        try simp only [Act.put, List.getElem_toArray, List.getElem_cons_zero, List.getElem_cons_succ, List.setIfInBounds_toArray, List.set_cons_zero, List.set_cons_succ]
        refine wpAnyH_take (i := 3) (v := ?_) rfl (by kernel_rfl) (by kernel_rfl) (by kernel_rfl) (fun _ _ _ h => h) (Or.inl ⟨by rfl, ?_⟩) hHeld ?_
        rotate_left
        · intro w hSw; obtain ⟨s0, s1, s2, s3, s4, s5, s6, s7⟩ := KC.out _ hSw; go_simp; try with_reducible rfl
        try simp only [Act.put, List.getElem_toArray, List.getElem_cons_zero, List.getElem_cons_succ, List.setIfInBounds_toArray, List.set_cons_zero, List.set_cons_succ]
        refine wpAnyH_take (i := 4) (v := ?_) rfl (by kernel_rfl) (by kernel_rfl) (by kernel_rfl) (fun _ _ _ h => h) (Or.inl ⟨by rfl, ?_⟩) hHeld ?_
        rotate_left
        · intro w hSw; obtain ⟨s0, s1, s2, s3, s4, s5, s6, s7⟩ := KC.out _ hSw; go_simp; try with_reducible rfl
        try simp only [Act.put, List.getElem_toArray, List.getElem_cons_zero, List.getElem_cons_succ, List.setIfInBounds_toArray, List.set_cons_zero, List.set_cons_succ]
        refine wpAnyH_take (i := 5) (v := ?_) rfl (by kernel_rfl) (by kernel_rfl) (by kernel_rfl) (fun _ _ _ h => h) (Or.inl ⟨by rfl, ?_⟩) hHeld ?_
        rotate_left
        · intro w hSw; obtain ⟨s0, s1, s2, s3, s4, s5, s6, s7⟩ := KC.out _ hSw; go_simp; try with_reducible rfl
        try simp only [Act.put, List.getElem_toArray, List.getElem_cons_zero, List.getElem_cons_succ, List.setIfInBounds_toArray, List.set_cons_zero, List.set_cons_succ]
        refine wpAnyH_take (i := 6) (v := ?_) rfl (by kernel_rfl) (by kernel_rfl) (by kernel_rfl) (fun _ _ _ h => h) (Or.inl ⟨by rfl, ?_⟩) hHeld ?_
        rotate_left
        · intro w hSw; obtain ⟨s0, s1, s2, s3, s4, s5, s6, s7⟩ := KC.out _ hSw; go_simp; try with_reducible rfl
        try simp only [Act.put, List.getElem_toArray, List.getElem_cons_zero, List.getElem_cons_succ, List.setIfInBounds_toArray, List.set_cons_zero, List.set_cons_succ]
        refine wpAnyH_take (i := 7) (v := ?_) rfl (by kernel_rfl) (by kernel_rfl) (by kernel_rfl) (fun _ _ _ h => h) (Or.inl ⟨by rfl, ?_⟩) hHeld ?_
        rotate_left
        · intro w hSw; obtain ⟨s0, s1, s2, s3, s4, s5, s6, s7⟩ := KC.out _ hSw; go_simp; try with_reducible rfl
        try simp only [Act.put, List.getElem_toArray, List.getElem_cons_zero, List.getElem_cons_succ, List.setIfInBounds_toArray, List.set_cons_zero, List.set_cons_succ]
        refine wpAnyH_take (i := 8) (v := ?_) rfl (by kernel_rfl) (by kernel_rfl) (by kernel_rfl) (fun _ _ _ h => h) (Or.inl ⟨by rfl, ?_⟩) hHeld ?_
        rotate_left
        · intro w hSw; obtain ⟨s0, s1, s2, s3, s4, s5, s6, s7⟩ := KC.out _ hSw; go_simp; try with_reducible rfl
        try simp only [Act.put, List.getElem_toArray, List.getElem_cons_zero, List.getElem_cons_succ, List.setIfInBounds_toArray, List.set_cons_zero, List.set_cons_succ]
        refine wpAnyH_take (i := 9) (v := ?_) rfl (by kernel_rfl) (by kernel_rfl) (by kernel_rfl) (fun _ _ _ h => h) (Or.inl ⟨by rfl, ?_⟩) hHeld ?_
        rotate_left
        · intro w hSw; obtain ⟨s0, s1, s2, s3, s4, s5, s6, s7⟩ := KC.out _ hSw; go_simp; try with_reducible rfl
        try simp only [Act.put, List.getElem_toArray, List.getElem_cons_zero, List.getElem_cons_succ, List.setIfInBounds_toArray, List.set_cons_zero, List.set_cons_succ]
        refine wpAnyH_take (i := 10) (v := ?_) rfl (by kernel_rfl) (by kernel_rfl) (by kernel_rfl) (fun _ _ _ h => h) (Or.inl ⟨by rfl, ?_⟩) hHeld ?_
        rotate_left
        · intro w hSw; obtain ⟨s0, s1, s2, s3, s4, s5, s6, s7⟩ := KC.out _ hSw; go_simp; try with_reducible rfl
        try simp only [Act.put, List.getElem_toArray, List.getElem_cons_zero, List.getElem_cons_succ, List.setIfInBounds_toArray, List.set_cons_zero, List.set_cons_succ]
        refine wpAnyH_ready (rs := [11]) (by kernel_rfl) (by simp) (AllReadyH.cons rfl (fun K hK => ?_) AllReadyH.nil)
        go_simp
        refine (at_below n i j b0 off0 cap0 _ hn hi hj).mono ?_
        rintro e W11 ⟨rfl, hW⟩
        refine hK.out _ _ (hHeld.trans (hW.mono hHeld.size)) (fun hNew => ?_)
        clear hHeld hK K hW
        have hHeld := hNew
        clear hNew
        try simp only [Act.put, List.getElem_toArray, List.getElem_cons_zero, List.getElem_cons_succ, List.setIfInBounds_toArray, List.set_cons_zero, List.set_cons_succ]
        refine wpAnyH_take (i := 12) (v := ?_) rfl (by kernel_rfl) (by kernel_rfl) (by kernel_rfl) (fun _ _ _ h => h) (Or.inl ⟨by rfl, ?_⟩) hHeld ?_
        rotate_left
        · intro w hSw; obtain ⟨s0, s1, s2, s3, s4, s5, s6, s7⟩ := KC.out _ hSw; go_simp; try with_reducible rfl
        try simp only [Act.put, List.getElem_toArray, List.getElem_cons_zero, List.getElem_cons_succ, List.setIfInBounds_toArray, List.set_cons_zero, List.set_cons_succ]
        refine wpAnyH_take (i := 13) (v := ?_) rfl (by kernel_rfl) (by kernel_rfl) (by kernel_rfl) (fun _ _ _ h => h) (Or.inl ⟨by rfl, ?_⟩) hHeld ?_
        rotate_left
        · intro w hSw; obtain ⟨s0, s1, s2, s3, s4, s5, s6, s7⟩ := KC.out _ hSw; go_simp; try with_reducible rfl
        try simp only [Act.put, List.getElem_toArray, List.getElem_cons_zero, List.getElem_cons_succ, List.setIfInBounds_toArray, List.set_cons_zero, List.set_cons_succ]
        refine wpAnyH_ready (rs := [14]) (by kernel_rfl) (by simp) (AllReadyH.cons rfl (fun K hK => ?_) AllReadyH.nil)
        go_simp
        refine (keeps_in a b c d x r _ a1 a2 c1 c2 M1.out M2.out HX.out HV.out).mono ?_
        rintro e W14 ⟨rfl, hW⟩
        refine hK.out _ _ (hHeld.trans (hW.mono hHeld.size)) (fun hNew => ?_)
        clear hHeld hK K hW
        have hHeld := hNew
        clear hNew
        try simp only [Act.put, List.getElem_toArray, List.getElem_cons_zero, List.getElem_cons_succ, List.setIfInBounds_toArray, List.set_cons_zero, List.set_cons_succ]
        refine wpAnyH_take (i := 15) (v := ?_) rfl (by kernel_rfl) (by kernel_rfl) (by kernel_rfl) (fun _ _ _ h => h) (Or.inl ⟨by rfl, ?_⟩) hHeld ?_
        rotate_left
        · intro w hSw; obtain ⟨s0, s1, s2, s3, s4, s5, s6, s7⟩ := KC.out _ hSw; go_simp; try with_reducible rfl
        try simp only [Act.put, List.getElem_toArray, List.getElem_cons_zero, List.getElem_cons_succ, List.setIfInBounds_toArray, List.set_cons_zero, List.set_cons_succ]
        refine wpAnyH_take (i := 16) (v := ?_) rfl (by kernel_rfl) (by kernel_rfl) (by kernel_rfl) (fun _ _ _ h => h) (Or.inl ⟨by rfl, ?_⟩) hHeld ?_
        rotate_left
        · intro w hSw; obtain ⟨s0, s1, s2, s3, s4, s5, s6, s7⟩ := KC.out _ hSw; go_simp; try with_reducible rfl
        try simp only [Act.put, List.getElem_toArray, List.getElem_cons_zero, List.getElem_cons_succ, List.setIfInBounds_toArray, List.set_cons_zero, List.set_cons_succ]
        refine wpAnyH_take (i := 17) (v := ?_) rfl (by kernel_rfl) (by kernel_rfl) (by kernel_rfl) (fun _ _ _ h => h) (Or.inl ⟨by rfl, ?_⟩) hHeld ?_
        rotate_left
        · intro w hSw; obtain ⟨s0, s1, s2, s3, s4, s5, s6, s7⟩ := KC.out _ hSw; go_simp; try with_reducible rfl
        try simp only [Act.put, List.getElem_toArray, List.getElem_cons_zero, List.getElem_cons_succ, List.setIfInBounds_toArray, List.set_cons_zero, List.set_cons_succ]
        refine wpAnyH_take (i := 18) (v := ?_) rfl (by kernel_rfl) (by kernel_rfl) (by kernel_rfl) (fun _ _ _ h => h) (Or.inl ⟨by rfl, ?_⟩) hHeld ?_
        rotate_left
        · intro w hSw; obtain ⟨s0, s1, s2, s3, s4, s5, s6, s7⟩ := KC.out _ hSw; go_simp; try with_reducible rfl
        try simp only [Act.put, List.getElem_toArray, List.getElem_cons_zero, List.getElem_cons_succ, List.setIfInBounds_toArray, List.set_cons_zero, List.set_cons_succ]
        refine wpAnyH_take (i := 19) (v := ?_) rfl (by kernel_rfl) (by kernel_rfl) (by kernel_rfl) (fun _ _ _ h => h) (Or.inl ⟨by rfl, ?_⟩) hHeld ?_
        rotate_left
        · intro w hSw; obtain ⟨s0, s1, s2, s3, s4, s5, s6, s7⟩ := KC.out _ hSw; go_simp; try with_reducible rfl
        try simp only [Act.put, List.getElem_toArray, List.getElem_cons_zero, List.getElem_cons_succ, List.setIfInBounds_toArray, List.set_cons_zero, List.set_cons_succ]
        refine wpAnyH_done (by kernel_rfl) ?_ _
        have hW14 := hW.trans (hHeld.mono hW.size)
        have V6 := V3.below hW14
        have V7 : Below w.heap.size w W14 := V4.trans (hW14.mono V4.size)
        have q := grown_below (grown_refl W none) hHeld (Nat.le_refl _)
        have V8 : w'.heap.size + 1 + 1 < W.heap.size := Nat.lt_of_lt_of_le V5 hW.size
        obtain ⟨x0, x1, x2⟩ := one V6.2.1
        obtain ⟨y0, y1, y2⟩ := one V6.2.2
        clear V1 V2 V4 hHeld KC
        cases r with
        | true =>
          gi_wp2
          refine ⟨KeepsFrom.of_grownBy q (fun r e => by cases e), q.block _ V8 (fun e => by cases e), hW14, fun y hy => ?_⟩
          rcases List.mem_append.1 hy with hy | hy
          · exact hp y hy
          · rw [List.mem_singleton.1 hy]; exact HKR.out.symm
        | false =>
          have r1 := lies.on_far (lies.on_put V6.2.1 0 (.bool false)) 0 (show w.heap.size + 1 ≠ w.heap.size + 1 + 1 by omega) (.int .i64 0)
          have r2 := lies.on_put (lies.on_far V6.2.2 0 (show w.heap.size + 1 + 1 ≠ w.heap.size + 1 by omega) (.bool false)) 0 (.int .i64 0)
          have hBB := ret2 V7 (.bool false) (.int .i64 0)
          have V9 := lies.lt V3.2.2
          have R := Lib.hid (And.intro r1 (And.intro r2 hBB))
          clear r1 r2 hBB
          gi_wp2
          obtain ⟨r1, r2, hBB⟩ := R.out
          refine ⟨⟨by have := q.size; simpa using this, fun k o hk h _ => (Below.heap_setCell _ _ _ k (by show k ≠ w.heap.size + 1 + 1; omega)).trans ((Below.heap_setCell _ _ _ k (by show k ≠ w.heap.size + 1; omega)).trans ((q.block k (Array.getElem?_eq_some_iff.1 h).1 (fun e => by cases e)).trans h))⟩, ⟨hBB, r1, r2⟩, rfl, i, j, hi, hj, HKR.out.symm⟩
      case done =>
        rintro D ys W hD rfl ⟨hW, hp⟩ hK
        have V6 := V3.below hW
        have V7 : Below w.heap.size w W := V4.trans (hW.mono V4.size)
        obtain ⟨x0, x1, x2⟩ := one V6.2.1
        obtain ⟨y0, y1, y2⟩ := one V6.2.2
        have hD' : w.heap.size + 1 + 1 < D := by have := V3.2.2; have := lies.lt this; simp at hD this; omega
        have r1 := lies.on_far (lies.on_put V6.2.1 0 (.bool true)) 0 (show w.heap.size + 1 ≠ w.heap.size + 1 + 1 by omega) (.int .i64 0)
        have r2 := lies.on_put (lies.on_far V6.2.2 0 (show w.heap.size + 1 + 1 ≠ w.heap.size + 1 by omega) (.bool true)) 0 (.int .i64 0)
        have hBB := ret2 V7 (.bool true) (.int .i64 0)
        have R := Lib.hid (And.intro r1 (And.intro r2 hBB))
        clear r1 r2 hBB hD
        gi_wp2
        have hK' := ((KeepsOthers.setCell W ⟨w.heap.size + 1, 0, none⟩ (.bool true)).trans (KeepsOthers.setCell _ ⟨w.heap.size + 1 + 1, 0, none⟩ (.int .i64 0))).same D _ hK rfl
        obtain ⟨r1, r2, hBB⟩ := R.out
        obtain ⟨k0, k1, k2⟩ := one r1
        obtain ⟨k3, k4, k5⟩ := one r2
        have q0 := cell_kept k0 (grownBy_putObj' _ D (.deferred none)) (fun r e => by cases e; exact ⟨_, hK', rfl⟩)
        have q1 := cell_kept k3 (grownBy_putObj' _ D (.deferred none)) (fun r e => by cases e; exact ⟨_, hK', rfl⟩)
        refine ⟨by simp, .inl ⟨_, _, rfl, run_takeDeferred hK', ?_⟩⟩
        refine ⟨.tuple #[.bool true, .int .i64 0], ?_, ?_, true, rfl, ?_⟩
        · simp [results, Try.f9, go_sem, q0, q1]
        · exact hBB.trans (belowK_b (w := w) (Nat.le_refl _) _ D _ _ (by omega) hK' rfl rfl)
        · refine ⟨fun _ i j hi hj => ?_, fun _ => rfl⟩
          rw [← HQS.out]
          exact hp ⟨(i, j), hi, hj⟩ (all_pairs h0 hn hi hj)
      case stop =>
        rintro D co pre W hD _ ⟨⟨hB, r1, r2⟩, rfl, i, j, hi, hj, hf⟩ hK
        have hD' : w.heap.size + 1 + 1 < D := by have := V3.2.2; have := lies.lt this; simp at hD this; omega
        obtain ⟨k0, k1, k2⟩ := one r1
        obtain ⟨k3, k4, k5⟩ := one r2
        have q0 := cell_kept k0 (grownBy_putObj' _ D (.deferred none)) (fun r e => by cases e; exact ⟨_, hK, rfl⟩)
        have q1 := cell_kept k3 (grownBy_putObj' _ D (.deferred none)) (fun r e => by cases e; exact ⟨_, hK, rfl⟩)
        clear hD
        gi_wp2
        refine ⟨by simp, .inl ⟨_, _, rfl, run_takeDeferred hK, ?_⟩⟩
        refine ⟨.tuple #[.bool false, .int .i64 0], ?_, ?_, false, rfl, ?_⟩
        · simp [results, Try.f9, go_sem, q0, q1]
        · exact hB.trans (belowK_b (w := w) (Nat.le_refl _) _ D _ _ (by omega) hK rfl rfl)
        · refine ⟨fun h => (by cases h), fun h => ?_⟩
          rw [← HQS.out] at h
          rw [h i j hi hj] at hf
          cases hf
end Go.Proofs.Ytlagnbbbokgdfaa.dbm
