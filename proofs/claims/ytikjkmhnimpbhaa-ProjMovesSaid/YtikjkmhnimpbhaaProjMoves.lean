/-
  ProjMoves answers true for every matrix, order and times; no condition.
-/
import Derived.Test.YtikjkmhnimpbhaaProjG
import Derived.BigQuiet
namespace Go.Proofs.Ytikjkmhnimpbhaa.projMoves
open Go.Joins Go.ChangeShapes Go.WideShapes Go.ChangeAt Go.RowKit num dbm Go.Proofs.Ytikjkmhnimpbhaa.tight Go.Proofs.Ytikjkmhnimpbhaa.tlaw Go.Proofs.Ytikjkmhnimpbhaa.proj plaw rat
open bound hiding up
set_option linter.unusedVariables false
set_option linter.unusedSimpArgs false

/-- the way back, as far as it is laid. -/
def bkT (os : List Int) (n : Nat) : Nat → List Int
  | 0 => List.replicate n 0
  | k + 1 => (bkT os n k).set (ordF os k) k
theorem bkT_length (os : List Int) (n k : Nat) : (bkT os n k).length = n := by
  induction k with
  | zero => simp [bkT]
  | succ k ih => unfold bkT; rw [List.length_set]; exact ih
theorem bkT_at {os : List Int} {n : Nat} (h : Ord n os) : ∀ k, k ≤ n → ∀ p, p < k → (bkT os n k)[ordF os p]?.getD 0 = (p : Int) := by
  intro k
  induction k with
  | zero => intro _ p hp; omega
  | succ k ih =>
    intro hk p hp
    unfold bkT
    rw [List.getElem?_set]
    by_cases e : ordF os k = ordF os p
    · have : k = p := ord_inj h (by omega) (by omega) (by rw [(ord_nat h (show k < n by omega)).2, (ord_nat h (show p < n by omega)).2, e])
      rw [if_pos e, if_pos (by rw [bkT_length]; exact (ord_nat h (by omega)).1), this]
      rfl
    · have hpk : p ≠ k := fun h => e (by rw [h])
      rw [if_neg e]
      exact ih (by omega) p (by omega)
theorem bk_inv {os : List Int} {n : Nat} (h : Ord n os) {i : Nat} (hi : i < n) : ordF (bkT os n n) i < n ∧ ordF os (ordF (bkT os n n) i) = i := by
  obtain ⟨p, hp, e⟩ := List.getElem_of_mem (h.2.2 i hi)
  rw [h.1] at hp
  have e1 : os[p]?.getD 0 = (i : Int) := by rw [List.getElem?_eq_getElem (by rw [h.1]; exact hp)]; exact e
  have e2 : ordF os p = i := by unfold ordF; rw [e1]; exact Int.toNat_natCast i
  have e3 := bkT_at h n (Nat.le_refl _) p hp
  rw [e2] at e3
  have e4 : ordF (bkT os n n) i = p := by unfold ordF; rw [e3]; exact Int.toNat_natCast p
  rw [e4]
  exact ⟨hp, e2⟩
theorem bk_ord {os : List Int} {n : Nat} (h : Ord n os) (h0 : 0 < n) : Ord n (bkT os n n) := by
  refine ⟨bkT_length _ _ _, ?_, fun v hv => ?_⟩
  · have := bkT_at h n (Nat.le_refl _) 0 h0
    have e : ordF os 0 = 0 := by unfold ordF; rw [h.2.1]; rfl
    rw [e] at this
    exact this
  · have := bkT_at h n (Nat.le_refl _) v hv
    have hl : ordF os v < (bkT os n n).length := by rw [bkT_length]; exact (ord_nat h hv).1
    rw [List.getElem?_eq_getElem hl] at this
    rw [← this]
    exact List.getElem_mem hl
/-- the times that are moved along. -/
def mvT (rs : List (Int × Int)) (os : List Int) (k : Nat) : List (Int × Int) := (List.range k).map fun i => pr rs (ordF os (i + 1) - 1)
theorem mvT_length (rs : List (Int × Int)) (os : List Int) (k : Nat) : (mvT rs os k).length = k := by simp [mvT]
theorem mvT_up (rs : List (Int × Int)) (os : List Int) (k : Nat) : mvT rs os (k + 1) = mvT rs os k ++ [pr rs (ordF os (k + 1) - 1)] := by
  unfold mvT
  rw [List.range_succ, List.map_append]
  rfl
theorem mvT_pr (rs : List (Int × Int)) (os : List Int) {k i : Nat} (h : i < k) : pr (mvT rs os k) i = pr rs (ordF os (i + 1) - 1) := by
  simp [pr, mvT, h]
theorem ord_pos {os : List Int} {n i : Nat} (h : Ord n os) (h0 : 0 < n) (hi : i < n) (h1 : 0 < i) : 0 < ordF os i := by
  refine Nat.pos_of_ne_zero fun e => ?_
  have : i = 0 := ord_inj h hi h0 (by rw [(ord_nat h hi).2, e, h.2.1]; rfl)
  omega
theorem mv_kept {n : Nat} {ts os : List Int} {rs : List (Int × Int)} (h0 : 0 < n) (hn : n ≤ 4) (h : Ord n os) (hr : rs.length + 1 = n) : keptAll n (moveT n (ordF os) ts) ((0, 1) :: mvT rs os (n - 1)) ↔ keptAll n ts ((0, 1) :: rs) := by
  refine move_kept (p := ordF (bkT os n n)) hn (fun i hi => (ord_nat h hi).1) (fun i hi => bk_inv h hi) (fun i hi => ?_)
  cases i with
  | zero =>
    have e : ordF os 0 = 0 := by unfold ordF; rw [h.2.1]; rfl
    rw [e]
    rfl
  | succ i =>
    rw [pr_cons, mvT_pr rs os (by omega)]
    have := ord_pos h h0 hi (by omega)
    obtain ⟨q, hq⟩ : ∃ q, ordF os (i + 1) = q + 1 := ⟨ordF os (i + 1) - 1, by omega⟩
    rw [hq, pr_cons]
    rfl
theorem mv_may {n : Nat} {os : List Int} {rs : List (Int × Int)} (h0 : 0 < n) (h : Ord n os) (hr : rs.length + 1 = n) (hm : MayT rs) : MayT (mvT rs os (n - 1)) := fun k hk => by
  rw [mvT_length] at hk
  rw [mvT_pr rs os hk]
  have h1 := (ord_nat h (show k + 1 < n by omega)).1
  have h2 := ord_pos h h0 (show k + 1 < n by omega) (by omega)
  exact hm _ (by omega)
theorem mv_ints {n : Nat} {os : List Int} {rs : List (Int × Int)} (h0 : 0 < n) (h : Ord n os) (hr : rs.length + 1 = n) (hm : IntsR rs) : IntsR (mvT rs os (n - 1)) := fun k hk => by
  rw [mvT_length] at hk
  rw [mvT_pr rs os hk]
  have h1 := (ord_nat h (show k + 1 < n by omega)).1
  have h2 := ord_pos h h0 (show k + 1 < n by omega) (by omega)
  exact hm _ (by omega)
theorem info_i : (Try.prog.info? 3).map (fun i => (i.zero, i.size, i.bytes)) = some (some (.int .i64 0), 1, 8) := by kernel_rfl

set_option maxRecDepth 100000 in
set_option maxHeartbeats 2000000 in
theorem walk_far (n : Int) (sv ov tv : Value) (ts os : List Int) (rs : List (Int × Int)) (w : World) (hI : law.Ints w.heap.size w sv ts) (hO : law.Ints w.heap.size w ov os) (hR : Rats w.heap.size w tv rs) (h : 1000 < ts.length ∨ (ts.length ≤ 1000 ∧ 100 < rs.length) ∨ (ts.length ≤ 1000 ∧ rs.length ≤ 100 ∧ 100 < os.length)) :
    Calls Try.prog 7 #[.agg #[.int .i64 n, sv], ov, tv] w fun e w' => e = .returned (.bool true) ∧ Below w.heap.size w w' := by
  have S := (St.start w).add n sv ts hI
  obtain ⟨ad, cap, rfl⟩ := ints_len hI
  obtain ⟨ad', cap', rfl⟩ := rats_len hR
  obtain ⟨ad2, cap2, rfl⟩ := ints_len hO
  clear hI hR hO
  rcases h with h | ⟨h, h2⟩ | ⟨h, h2, h3⟩
  · have t1 : (1000 : Int) < ts.length := by omega
    go_enter Try.func7, Try.ntmps7
    go_wp2_with fail
    generalize w.alloc (.cells #[.int .i64 n, .slice ad ts.length cap] 24) = w0 at S ⊢
    refine (alive_yes _).mono ?_
    rintro e w1 ⟨rfl, hB⟩
    replace S := S.below hB
    clear hB
    obtain ⟨x0, x1, x2, x3, x4⟩ := lies.two S.head.1
    go_wp2_with fail
    go_ret
    exact ⟨rfl, S.1⟩
  · have t1 : ¬ (1000 : Int) < ts.length := by omega
    have t2 : (100 : Int) < rs.length := by omega
    go_enter Try.func7, Try.ntmps7
    go_wp2_with fail
    generalize w.alloc (.cells #[.int .i64 n, .slice ad ts.length cap] 24) = w0 at S ⊢
    refine (alive_yes _).mono ?_
    rintro e w1 ⟨rfl, hB⟩
    replace S := S.below hB
    clear hB
    obtain ⟨x0, x1, x2, x3, x4⟩ := lies.two S.head.1
    go_wp2_with fail
    go_ret
    exact ⟨rfl, S.1⟩
  · have t1 : ¬ (1000 : Int) < ts.length := by omega
    have t2 : ¬ (100 : Int) < rs.length := by omega
    have t3 : (100 : Int) < os.length := by omega
    go_enter Try.func7, Try.ntmps7
    go_wp2_with fail
    generalize w.alloc (.cells #[.int .i64 n, .slice ad ts.length cap] 24) = w0 at S ⊢
    refine (alive_yes _).mono ?_
    rintro e w1 ⟨rfl, hB⟩
    replace S := S.below hB
    clear hB
    obtain ⟨x0, x1, x2, x3, x4⟩ := lies.two S.head.1
    go_wp2_with fail
    go_ret
    exact ⟨rfl, S.1⟩

set_option maxRecDepth 100000 in
set_option maxHeartbeats 8000000 in
theorem walk_in (n : Int) (sv ov tv : Value) (ts os : List Int) (rs : List (Int × Int)) (w : World) (hI : law.Ints w.heap.size w sv ts) (hO : law.Ints w.heap.size w ov os) (htop : Tops ts) (hR : Rats w.heap.size w tv rs) (hi : IntsR rs) (h : ts.length ≤ 1000) (h2 : rs.length ≤ 100) (h3 : os.length ≤ 100) :
    Calls Try.prog 7 #[.agg #[.int .i64 n, sv], ov, tv] w fun e w' => e = .returned (.bool true) ∧ Below w.heap.size w w' := by
  have S := (St.start w).add n sv ts hI
  obtain ⟨ad, cap, rfl⟩ := ints_len hI
  obtain ⟨ad', cap', rfl⟩ := rats_len hR
  obtain ⟨ad2, cap2, rfl⟩ := ints_len hO
  have HT := Lib.hid htop
  have HRR := Lib.hid hR
  have HII := Lib.hid hi
  have HO := Lib.hid hO
  have t1 : ¬ (1000 : Int) < ts.length := by omega
  have t2 : ¬ (100 : Int) < rs.length := by omega
  have t3 : ¬ (100 : Int) < os.length := by omega
  clear hI hR htop hi hO
  go_enter Try.func7, Try.ntmps7
  go_wp2_with fail
  generalize w.alloc (.cells #[.int .i64 n, .slice ad ts.length cap] 24) = w0 at S ⊢
  refine (alive_yes _).mono ?_
  rintro e w1 ⟨rfl, hB⟩
  replace S := S.below hB
  clear hB
  obtain ⟨x0, x1, x2, x3, x4⟩ := lies.two S.head.1
  go_wp2_with fail
  clear x0 x1 x2 x3 x4
  refine (move_any n _ _ ts os _ S.head.2 (by omega) HT.out ((HO.out.below S.1).mono S.1.size)).mono ?_
  rintro e w2 ⟨hB, na, aa, la, ca, us, f, rfl, hG, hK⟩
  have hla := blk_len hK
  replace S := (S.below hB).add na _ us hK.ints
  have HG := Lib.hid hG
  clear hB hK hG
  by_cases hf : f = 0
  · subst hf
    obtain ⟨hm, hord, hna, hus⟩ := move_zero HG.out
    obtain ⟨m, rfl, h0, hn, hl⟩ := may_nat hm
    rw [Int.toNat_natCast] at hord hus
    subst hna
    obtain ⟨ob, oo, od, eo, hob, hor⟩ := ints_form HO.out (by rw [hord.1]; exact h0)
    injection eo with eo1 eo2 eo3
    subst eo1
    subst eo3
    clear eo2 HO hla HG
    rw [hord.1] at t3 ⊢
    have hmk : ∀ w : World, (Instr.makeSlice 30 (.int .i64 m) (.int .i64 m)).run Try.prog w = .ok (.slice (some ⟨w.heap.size, 0, none⟩) m m) (w.alloc (.cells (madeCells #[.int .i64 0] m) 3)) := run_make_row' (P := Try.prog) 30 3 (.int .i64 0) 8 Try.underlying30 info_i rfl .i64 .i64 m (by omega) (by omega)
    have hmu : MayD (m : Int) us := by rw [hus]; exact laidT_may hm h0 hn
    have hlu : us.length ≤ 1000 := by
      rw [hus]
      show (laidT m m (ordF os) ts).length ≤ 1000
      rw [laidT_length]
      have := sq_le hn
      omega
    have HTU : RowKit.Hid (Tops us) := Lib.hid (by rw [hus]; exact laidT_tops hl hn HT.out)
    have HMU := Lib.hid hmu
    have HM := Lib.hid hm
    have HUS := Lib.hid hus
    have HL := Lib.hid hl
    have HORD := Lib.hid hord
    have HRO := Lib.hid hor
    clear hm hmu hus hl hord hor h3
    go_wp2_with fail
    clear hmk
    have N := StN.of S
    rw [World.size_alloc] at N
    have hN := bound.up1 (w2.alloc (.cells #[.int .i64 m, .slice aa la ca] 24)) (.cells (madeCells #[.int .i64 0] m) 3)
    rw [World.size_alloc] at hN
    replace N := N.below hN
    have G : lies.Lies ((w2.alloc (.cells #[.int .i64 m, .slice aa la ca] 24)).alloc (.cells (madeCells #[.int .i64 0] m) 3)) (w2.heap.size + 1) 3 (cellsOf (bkT os m 0)) := by
      show lies.Lies _ _ _ (cellsOf (List.replicate m 0))
      rw [← made_zeros]
      exact lies.made_at _ _ _ _ (by simp)
    clear S hN
    generalize (w2.alloc (.cells #[.int .i64 m, .slice aa la ca] 24)).alloc (.cells (madeCells #[.int .i64 0] m) 3) = u2 at N G ⊢
    generalize w2.heap.size = B2 at N G ⊢
    go_loopw [11] (fun iv wr => ∃ i : Nat, i ≤ m ∧ iv = .int .i64 i ∧ StN (B2 + 1) [(B2, (m : Int), .slice aa la ca, us), (w.heap.size, (m : Int), .slice ad ts.length cap, ts)] w wr ∧ lies.Lies wr (B2 + 1) 3 (cellsOf (bkT os m i))) (fun iv _ => m - (intOf iv).toNat)
    case atStart => exact ⟨0, Nat.zero_le _, rfl, N, G⟩
    case round =>
      clear N G
      obtain ⟨i, hi, rfl, N, G⟩ := hrel
      by_cases him : i < m
      · have hc := (HRO.out.below N.1 hob) i (by rw [HORD.out.1]; exact him)
        have hx := (ord_nat HORD.out him).1
        rw [(ord_nat HORD.out him).2] at hc
        have hup : bkT os m (i + 1) = (bkT os m i).set (ordF os i) i := rfl
        have HUP := Lib.hid hup
        have hlen := bkT_length os m i
        have hcell := (lies.cell G (ordF os i)).trans (cells_at (bkT os m i) (ordF os i) (by rw [hlen]; exact hx))
        have hfree := lies.free G (ordF os i)
        have hgl := lies.lt G
        generalize (bkT os m i)[ordF os i]?.getD 0 = y at hcell
        clear hup
        generalize ordF os i = x at hc hx HUP hcell hfree
        have z1 : (0 : Int) ≤ x := by omega
        have z2 : (x : Int) < m := by omega
        have z3 : (i : Int) < m := by omega
        clear hlen
        go_wp2_with fail
        have G2 := lies.on_put G x (.int .i64 i)
        rw [cells_set] at G2
        go_roundw
        case rel => exact ⟨i + 1, by omega, by go_num, N.below ((Below.refl _ _).setCell (p := ⟨B2 + 1, x, none⟩) (Nat.le_refl _) _), by rw [HUP.out]; exact G2⟩
        case measure => simp [intOf]; omega
      · obtain rfl : m = i := by omega
        have S := N.back
        clear N
        obtain ⟨x0, x1, x2, x3, x4⟩ := lies.two S.head.1
        go_wp2_with fail
        clear x0 x1 x2 x3 x4
        refine (move_any (m : Int) _ _ us (bkT os m m) _ S.head.2 (by omega) HTU.out (by have k := int_ints (cap := m) G; rwa [bkT_length] at k)).mono ?_
        rintro e w3 ⟨hB, nb, ab, lb, cb, vs, f2, rfl, hR2, hK⟩
        obtain ⟨h1, h2', rfl⟩ := move_yes hR2 HMU.out (by rw [Int.toNat_natCast]; exact bk_ord HORD.out h0)
        obtain rfl : vs = ts := by
          rw [h2', Int.toNat_natCast, HUS.out]
          exact move_back h0 hn HL.out (fun i hi => (ord_nat HORD.out hi).1) (fun i hi => bk_inv HORD.out hi)
        subst h1
        replace S := (S.below hB).add (m : Int) _ _ hK.ints
        clear hB hK hR2 h2' G
        obtain ⟨x0, x1, x2, x3, x4⟩ := lies.two S.tail.tail.head.1
        go_wp2_with fail
        clear x0 x1 x2 x3 x4
        generalize w3.alloc (.cells #[.int .i64 m, .slice ab lb cb] 24) = u3 at S ⊢
        generalize w3.heap.size = B3 at S ⊢
        refine (dref.same_true (m : Int) _ _ vs vs _ S.head.2 S.tail.tail.head.2 (by omega) rfl).mono ?_
        rintro e w4 ⟨rfl, hB⟩
        replace S := S.below hB
        clear hB
        obtain ⟨x0, x1, x2, x3, x4⟩ := lies.two S.tail.tail.head.1
        go_wp2_with fail
        clear x0 x1 x2 x3 x4
        refine (dkeeps_any (m : Int) _ _ vs rs _ S.tail.tail.head.2 (by omega) HT.out ((HRR.out.below S.1).mono S.1.size) HII.out (by omega)).mono ?_
        rintro e w5 ⟨hB, r1, c1, rfl, hc⟩
        replace S := S.below hB
        have HC1 := Lib.hid hc
        clear hB hc
        by_cases hc0 : c1 = 0
        · subst hc0
          obtain ⟨hmt, hlr, hk1⟩ : MayT rs ∧ rs.length + 1 = m ∧ (r1 = true ↔ keptAll m vs ((0, 1) :: rs)) := by
            rcases HC1.out with ⟨h, _⟩ | ⟨h, _⟩ | ⟨_, _, h, h', h''⟩
            · exact absurd h (by decide)
            · exact absurd h (by decide)
            · rw [Int.toNat_natCast] at h''
              exact ⟨h, by omega, h''⟩
          have HMT := Lib.hid hmt
          have HK1 := Lib.hid hk1
          have HLR := Lib.hid hlr
          clear hmt hlr hk1 HC1
          go_wp2_with fail
          have N := StN.of S
          clear S
          have O : w5.ownsRow w5.heap.size 51 2 (.slice none 0 0) 0 (flat (mvT rs os 0)) := World.ownsRow_nil _ _ _ _
          generalize w5.heap.size = n₁ at N O
          go_loopw [16, 17] (fun mv iv wr => ∃ k : Nat, k + 1 ≤ m ∧ iv = .int .i64 ((k + 1 : Nat) : Int) ∧ StN n₁ [(B3, (m : Int), .slice ab lb cb, vs), (B2, (m : Int), .slice aa la ca, us), (w.heap.size, (m : Int), .slice ad vs.length cap, vs)] w wr ∧ wr.ownsRow n₁ 51 2 mv k (flat (mvT rs os k))) (fun _ iv _ => m - (intOf iv).toNat)
          case atStart => exact ⟨0, by omega, rfl, N, O⟩
          case round =>
            clear N O
            obtain ⟨k, hk, rfl, N, O⟩ := hrel
            obtain ⟨ma, ml, mc, rfl⟩ := own_slice O
            by_cases hkm : k + 1 < m
            · have hc := (HRO.out.below N.1 hob) (k + 1) (by rw [HORD.out.1]; exact hkm)
              have hx := (ord_nat HORD.out hkm).1
              have hx0 := ord_pos HORD.out h0 hkm (by omega)
              rw [(ord_nat HORD.out hkm).2] at hc
              have hup := mvT_up rs os k
              generalize ordF os (k + 1) = x at hc hx hx0 hup
              obtain ⟨y, hy⟩ : ∃ y, y = x - 1 := ⟨_, rfl⟩
              rw [← hy] at hup
              have hyl : y < rs.length := by have := HLR.out; omega
              obtain ⟨qb, qo, qc, eo, htb, htr⟩ : ∃ b off c, Value.slice ad' rs.length cap' = .slice (some ⟨b, off, none⟩) rs.length c ∧ b < w.heap.size ∧ RowR wr b off rs := by
                rcases HRR.out.below N.1 with ⟨_, h⟩ | h
                · rw [h] at hyl; simp at hyl
                · exact h
              injection eo with eo1 eo2 eo3
              subst eo1
              subst eo3
              clear eo2
              obtain ⟨c1, c2⟩ := htr y hyl
              generalize pr rs y = pq at c1 c2 hup
              obtain ⟨p, q⟩ := pq
              have hbt := Nat.lt_of_lt_of_le htb N.1.size
              have hbo := Nat.lt_of_lt_of_le hob N.1.size
              have z1 : wrap64 ((x : Int) - 1) = (y : Int) := by rw [IntWalk.wrap64_in _ ⟨by omega, by omega⟩]; omega
              have z2 : IntKind.i64.wrap ((x : Int) - 1) = (y : Int) := by rw [IntWalk.i64_in _ ⟨by omega, by omega⟩]; omega
              have z3 : (0 : Int) ≤ y := by omega
              have z4 : (y : Int) < rs.length := by omega
              have z5 : ((k + 1 : Nat) : Int) < m := by omega
              obtain ⟨v', w', hrun, own, hgrow⟩ := app_any n₁ 42 (.slice ma ml mc) (.slice (some ⟨wr.heap.size, 0, none⟩) 1 1) k _ (flat (mvT rs os k)) [(p, q)] (wr.alloc (.cells #[.int .i64 p, .int .i64 q] 51)) (O.alloc _) (rats_one (lies.made wr 51 #[.int .i64 p, .int .i64 q])) (by simp; omega) (by have := N.2.2.1; simp; omega)
              have HRUN := Lib.hid hrun
              have HB : RowKit.Hid (Below n₁ wr w') := Lib.hid (held_grown ((Below.refl _ wr).alloc N.2.2.1 _) (by have := N.2.2.1; simp; omega) (O.alloc _) (Nat.le_refl _) hgrow)
              have HOW : RowKit.Hid (w'.ownsRow n₁ 51 2 v' (k + 1) (flat (mvT rs os (k + 1)))) := Lib.hid (by rw [hup, flat_app]; exact own)
              have HX0 := Lib.hid hx0
              clear hrun own hgrow hup hy hyl htr htb hx hx0 O
              push_cast at z5
              go_wp2_with (at_builtin; refine dref.append_run2 rfl (.tmp 96) (.tmp 105) 42 rfl _ _ _ _ rfl rfl HRUN.out ?_; clear HRUN)
              go_roundw
              case rel => exact ⟨k + 1, by omega, by go_num, N.below HB.out, HOW.out⟩
              case measure => simp [intOf]; omega
            · obtain rfl : k = m - 1 := by omega
              have e1 : ((m - 1 + 1 : Nat) : Int) = (m : Int) := by omega
              rw [e1]
              have S := N.back
              have hR2 := rats_own O (mvT_length rs os (m - 1))
              clear N O e1
              obtain ⟨x0, x1, x2, x3, x4⟩ := lies.two S.tail.head.1
              go_wp2_with fail
              clear x0 x1 x2 x3 x4
              refine (dkeeps_any (m : Int) _ _ us (mvT rs os (m - 1)) _ S.tail.head.2 (by omega) HTU.out hR2 (mv_ints h0 HORD.out HLR.out HII.out) (by rw [mvT_length]; omega)).mono ?_
              rintro e w6 ⟨hB, r2, c2, rfl, hc⟩
              have KZ := (S.below hB).1
              obtain ⟨rfl, rfl⟩ : c2 = 0 ∧ r2 = r1 := by
                rcases hc with ⟨_, _, h⟩ | ⟨_, _, _, _, h⟩ | ⟨h, _, _, _, h'⟩
                · exact (h ⟨HMU.out, mv_may h0 HORD.out HLR.out HMT.out⟩).elim
                · exact (h (by rw [mvT_length]; omega)).elim
                · refine ⟨h, Bool.eq_iff_iff.2 (h'.trans (Iff.trans ?_ HK1.out.symm))⟩
                  rw [Int.toNat_natCast, HUS.out]
                  exact mv_kept h0 hn HORD.out HLR.out
              have tb : (r2 == r2) = true := by simp
              clear hB hc S hR2 HK1
              go_wp2_with fail
              go_ret
              exact ⟨rfl, KZ⟩
        · have t6 : (c1 != 0) = true := by simpa using hc0
          clear hc0 HC1
          go_wp2_with fail
          go_ret
          exact ⟨rfl, S.1⟩
  · have hnil := move_nil HG.out hf
    have t5 : (f != 0) = true := by simpa using hf
    rw [hnil] at hla
    obtain rfl : la = 0 := hla
    clear hnil hf HG
    go_wp2_with fail
    go_ret
    exact ⟨rfl, S.1⟩

theorem walk (n : Int) (sv ov tv : Value) (ts os : List Int) (rs : List (Int × Int)) (w : World) (hI : law.Ints w.heap.size w sv ts) (hO : law.Ints w.heap.size w ov os) (htop : Tops ts) (hR : Rats w.heap.size w tv rs) (hi : IntsR rs) :
    Calls Try.prog 7 #[.agg #[.int .i64 n, sv], ov, tv] w fun e w' => e = .returned (.bool true) ∧ Below w.heap.size w w' := by
  by_cases h : 1000 < ts.length ∨ (ts.length ≤ 1000 ∧ 100 < rs.length) ∨ (ts.length ≤ 1000 ∧ rs.length ≤ 100 ∧ 100 < os.length)
  · exact walk_far n sv ov tv ts os rs w hI hO hR h
  · exact walk_in n sv ov tv ts os rs w hI hO htop hR hi (by omega) (by omega) (by omega)

set_option maxRecDepth 100000 in
theorem lifted (os : Os) (started : os.Started) (H : Type) (enc : TypeId × Value → H) :
    ReturnsInHanded {} Try.checked os 7 .any (Rows.projMovesSpec.pre6 enc Try.prog Try.f7 Rows.projMovesRow.domain false) (Rows.projMovesSpec.post enc Try.prog Try.f7 false true false false) := by
  refine returnsInHanded_of_change (C := Try.checked) law.own started (by kernel_rfl) Try.func7
    (ChangeSpec.witness6 (enc := enc) (C := Try.checked) false ⟨#[], #[.agg #[.int .i64 0, .slice none 0 0], .slice none 0 0, .slice none 0 0], []⟩ 8 (by kernel_rfl) (by kernel_rfl) (by kernel_rfl) (by kernel_rfl)) ?_
  intro W base args ds gs before hval0 hW _ _
  have hval : ∀ (j : Nat) t v, Try.f7.params[j]? = some t → args[j]? = some v → Value.okWide Try.prog W .any base t v := hval0
  have hW' := hW
  obtain ⟨p, q, hA0, hV, rfl, _, _⟩ := hW
  have hA : DataW.TrodAll enc Try.prog W 0 (fun _ => true) true Try.f7.params.toList args.toList ds p := hA0
  rw [Try.params7] at hA hval
  obtain ⟨v0, vs0, d0, ds0, p0, q0, hargs, rfl, rfl, h0, r0⟩ := trodAll_cons hA
  obtain ⟨v1, vs1, d1, ds1, p1, q1, rfl, rfl, rfl, h1, r1⟩ := trodAll_cons r0
  obtain ⟨v2, vs2, d2, ds2, p2, q2, rfl, rfl, rfl, h2, r2⟩ := trodAll_cons r1
  obtain ⟨rfl, rfl, rfl⟩ := trodAll_nil r2
  obtain rfl : args = #[v0, v1, v2] := by cases args; simp_all
  obtain ⟨n0, sv0, ts0, rfl, _, hwf0, hI0, _⟩ := dlaw.open_dbm (hval 0 24 v0 rfl rfl) h0
  obtain ⟨oa1, ol1, oc1, os1, rfl, hl1, hm1, _, hI1⟩ := law.slice_ints Try.underlying30 Try.underlying3 (by kernel_rfl) (hval 1 30 v1 rfl rfl) h1
  obtain ⟨rs2, hi2, hR2, _⟩ := open_rats (hval 2 42 v2 rfl rfl) h2
  refine (walk n0 sv0 _ v2 ts0 os1 rs2 W hI0 hI1 (fun z hz => law.wf_hi (hwf0 z hz)) hR2 hi2).mono fun e W' ⟨he, hB⟩ => ?_
  subst he
  exact ⟨_, rfl, law.post_true law.laidOut (by kernel_rfl) rfl Try.underlying4 rfl hW' (fun h => by subst h; rfl) hB⟩

theorem proved : Rows.ProjMovesSaid :=
  OpenClaim.holds_of_wide 7 Try.f7 rfl rfl rfl rfl rfl rfl rfl ⟨rfl, rfl, rfl, rfl, rfl⟩ rfl rfl rfl rfl rfl (by kernel_rfl) Try.func7 (by kernel_rfl)
    (of_decide_eq_true (by kernel_rfl)) (by unfold Func.isWrapper; first | (rw [if_pos (by decide +kernel)]; kernel_rfl) | (rw [if_neg (by decide +kernel)]; exact ⟨rfl, rfl⟩))
    (fun os started H enc _ => lifted os started H enc)
#print axioms proved
end Go.Proofs.Ytikjkmhnimpbhaa.projMoves
