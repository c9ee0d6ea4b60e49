/- What units cost by blocks: both sides, and the law. -/
import Derived.Test.YtjkokhdbkmjenaaCostW
import Derived.Laws.Small
namespace Go.Proofs.Ytjkokhdbkmjenaa
open Go.RowKit
set_option linter.unusedVariables false

theorem implBlk_any (x : Int) (w : World) : Calls Try.prog 70 #[.int .i64 x] w (Bol (blk x) w) := by
  have H := Lib.hid (implAmt_any x w)
  unfold blk
  cases B : amt x
  · rw [B] at H
    go_enter Try.func70, Try.ntmps70
    go_wp2_with fail
    refine H.out.mono ?_
    rintro e w' ⟨rfl, n, rfl⟩
    go_wp2
    go_ret
    exact ⟨ret_b (by simp), _, rfl⟩
  · rw [B] at H
    go_enter Try.func70, Try.ntmps70
    go_wp2_with fail
    refine H.out.mono ?_
    rintro e w' ⟨rfl, n, rfl⟩
    go_wp2
    go_ret
    exact ⟨ret_b (by simp), _, rfl⟩

theorem litBlk_any (y : Int) (q : Nat) (w : World) (hq : w.cell? ⟨q, 0, none⟩ = some (.func (.func 70) #[] #[])) :
    Calls Try.prog 87 #[.int .i64 y, .pointer (some ⟨q, 0, none⟩)] w (Bol (!(blk y)) w) := by
  go_enter Try.func87, Try.ntmps87
  go_wp2_with (go_at_call 70; refine (implBlk_any _ _).mono ?_; rintro e w' ⟨rfl, n, rfl⟩)
  go_ret
  exact ⟨rfl, _, rfl⟩

theorem idxBlk_any (v : Value) (zs : List Int) (q : Nat) (w : World) (h : JRow w v zs) (hq : w.cell? ⟨q, 0, none⟩ = some (.func (.func 70) #[] #[])) :
    Calls Try.prog 99 #[v, .func (.func 87) #[] #[.pointer (some ⟨q, 0, none⟩)]] w (Idx (zs.any (fun z => !(blk z))) w) := by
  have VS := Lib.hid (fun k (hk : k < zs.length) (h : (!(blk (zs.getD k 0))) = true) => anyJ_some (f := fun z => !(blk z)) hk h)
  have VN := Lib.hid (fun h => anyJ_none (f := fun z => !(blk z)) (zs := zs) h)
  have HC := Lib.hid (fun (hn : 1 ≤ zs.length) => h.cells hn)
  have HL := Lib.hid h.len
  obtain ⟨a, cap, rfl⟩ := h.shape
  clear h
  generalize hb : zs.any (fun z => !(blk z)) = b at *
  clear hb
  have HG : Hid (∀ k, zs.getD k 0 = zs.getD k 0) := Lib.hid (fun k => rfl)
  generalize hn : zs.length = n at *
  clear hn
  go_enter Try.func99, Try.ntmps99
  go_wp2
  go_loopw [5, 8] (fun _ i wr => ∃ k q : Nat, k ≤ n ∧ i = .int .i64 k ∧ Hid (∀ j, j < k → (!(blk (zs.getD j 0))) = false) ∧ wr = w.drewN q) (fun _ i _ => n - (intOf i).toNat)
  case atStart => exact ⟨0, 0, Nat.zero_le _, rfl, Lib.hid (fun j hj => absurd hj (Nat.not_lt_zero _)), rfl⟩
  case round =>
    obtain ⟨k, q, hk, rfl, hall, rfl⟩ := hrel
    by_cases hlt : k < n
    · obtain ⟨b0, o0, cap', e, hc⟩ := HC.out (by omega)
      have ea : a = some ⟨b0, o0, none⟩ := by cases e; rfl
      have z0 := hc k hlt
      have VSk := Lib.hid (VS.out k hlt)
      clear e hc
      subst ea
      have hG := HL.out
      have hi : (0 : Int) ≤ (k : Int) := by omega
      have hi' : (k : Int) < (n : Int) := by omega
      generalize hy : zs.getD k 0 = y at *
      cases B : blk y
      · have V := Lib.hid (VSk.out (by rw [B]; rfl))
        go_wp2_with (go_at_call 87; refine (litBlk_any y _ _ (by simpa using hq)).mono ?_; rw [B]; rintro e w' ⟨rfl, n, rfl⟩)
        go_ret
        exact ⟨_, rfl, by rw [V.out]; simp, _, rfl⟩
      · have V := Lib.hid (show (!(blk (zs.getD k 0))) = false by rw [hy, B]; rfl)
        clear hy
        go_wp2_with (go_at_call 87; refine (litBlk_any y _ _ (by simpa using hq)).mono ?_; rw [B]; rintro e w' ⟨rfl, n, rfl⟩)
        go_roundw
        case rel => exact ⟨k + 1, _, by omega, by go_num, Lib.hid (fun j hj => by rcases Nat.lt_succ_iff_lt_or_eq.1 hj with h | h; exact hall.out j h; subst h; exact V.out), rfl⟩
        case measure => simp [intOf]; omega
    · have e := Lib.hid (show k = n by omega)
      go_wp2
      go_ret
      have := e.out
      subst this
      exact ⟨_, rfl, by rw [VN.out hall.out]; rfl, _, rfl⟩

theorem allBlk_any (v : Value) (zs : List Int) (w : World) (h : JRow w v zs) : Calls Try.prog 60 #[v, .func (.func 70) #[] #[]] w (BolB (zs.all (blk)) w) := by
  have H := Lib.hid (h.below (below_al1 w (.cells [Value.func (.func 70) #[] #[]].toArray 76)))
  have e := Lib.hid (show (!(zs.any (fun z => !(blk z)))) = zs.all (blk) from not_any_notJ _ _)
  clear h
  go_enter Try.func60, Try.ntmps60
  go_wp2_with (first | (go_at_call 99; refine (idxBlk_any _ zs _ _ H.out (by simp)).mono ?_; rintro e w' ⟨i, rfl, hi, n, rfl⟩) | go_in)
  go_ret
  exact ⟨ret_b e.out.symm, below_drewN (below_al1 _ _) _⟩


def mn (x y : Int) : Int := if y < x then y else x
theorem min_any (x y : Int) (w : World) : Calls Try.prog 69 #[.int .i64 x, .int .i64 y] w fun e w' => e = .returned (.int .i64 (mn x y)) ∧ w = w' := by
  by_cases h : x < y
  · have E := Lib.hid (show mn x y = x by unfold mn; rw [if_neg (by omega)])
    have f0 : decide (x < y) = true := by simp; omega
    go_enter Try.func69, Try.ntmps69
    go_wp2
    go_ret
    exact ⟨by rw [E.out]; rfl, rfl⟩
  · have E := Lib.hid (show mn x y = y by unfold mn; split <;> omega)
    have f0 : decide (x < y) = false := by simp; omega
    go_enter Try.func69, Try.ntmps69
    go_wp2
    go_ret
    exact ⟨by rw [E.out]; rfl, rfl⟩
theorem mn_bd {x y : Int} {M : Int} (hx : 0 ≤ x ∧ x ≤ M) (hy : 0 ≤ y) : 0 ≤ mn x y ∧ mn x y ≤ x := by unfold mn; split <;> omega

/-- what is left behind k blocks, and what they cost -/
def lft (u : Int) (b : List Int) : Nat → Int
  | 0 => u
  | k + 1 => lft u b k - mn (lft u b k) (b.getD k 0)
def bil (u : Int) (b p : List Int) : Nat → Int
  | 0 => 0
  | k + 1 => bil u b p k + mn (lft u b k) (b.getD k 0) * p.getD k 0
theorem lft_bd {u : Int} {b : List Int} (hu : 0 ≤ u ∧ u ≤ 1000000) : ∀ k, (∀ j, j < k → blk (b.getD j 0) = true) → 0 ≤ lft u b k ∧ lft u b k ≤ 1000000 := by
  intro k
  induction k with
  | zero => intro _; exact hu
  | succ k ih =>
    intro h
    have h1 := ih (fun j hj => h j (by omega))
    have h2 := h k (by omega)
    unfold blk amt at h2
    simp only [Bool.and_eq_true, decide_eq_true_eq] at h2
    have h3 := mn_bd h1 h2.1.1
    unfold lft
    generalize mn (lft u b k) (b.getD k 0) = m at *
    omega
theorem bil_bd {u : Int} {b p : List Int} {n : Nat} (hu : 0 ≤ u ∧ u ≤ 1000000) (hp : ∀ k, k < n → 0 ≤ p.getD k 0 ∧ p.getD k 0 ≤ 1000000) : ∀ k, k ≤ n → (∀ j, j < k → blk (b.getD j 0) = true) → 0 ≤ bil u b p k ∧ bil u b p k ≤ 1000000000000 * (k : Int) := by
  intro k
  induction k with
  | zero => intro _ _; exact ⟨Int.le_refl _, by simp [bil]⟩
  | succ k ih =>
    intro hk h
    have h1 := ih (by omega) (fun j hj => h j (by omega))
    have h2 := h k (by omega)
    unfold blk amt at h2
    simp only [Bool.and_eq_true, decide_eq_true_eq] at h2
    have h4 := lft_bd hu k (fun j hj => h j (by omega))
    have h3 := mn_bd h4 h2.1.1
    have h5 := mul_amt (x := mn (lft u b k) (b.getD k 0)) (by omega) (hp k (by omega))
    unfold bil
    generalize mn (lft u b k) (b.getD k 0) * p.getD k 0 = m at *
    omega
def bllB (u : Int) (b p : List Int) : Bool := amt u && decide (b.length ≤ 16) && prc p && decide (p.length = b.length + 1) && b.all blk
def bllS (u : Int) (b p : List Int) : Int := bif bllB u b p then bil u b p b.length + lft u b b.length * p.getD b.length 0 else 0
theorem bll_no {u : Int} {b p : List Int} {w w' : World} (h : bllB u b p = false) (hb : Below w.heap.size w w') : IntB (bllS u b p) (bllB u b p) w (.returned (.tuple #[.int .i64 0, .bool false])) w' := by
  unfold bllS; rw [h]; exact ⟨rfl, hb⟩
theorem bll_yes {u : Int} {b p : List Int} {w w' : World} (h : bllB u b p = true) (hb : Below w.heap.size w w') : IntB (bllS u b p) (bllB u b p) w (.returned (.tuple #[.int .i64 (bil u b p b.length + lft u b b.length * p.getD b.length 0), .bool true])) w' := by
  unfold bllS; rw [h]; exact ⟨rfl, hb⟩
theorem blk_bd {x : Int} (h : blk x = true) : 1 ≤ x ∧ x ≤ 1000000 := by
  unfold blk amt at h
  simp only [Bool.and_eq_true, decide_eq_true_eq] at h
  omega
theorem blk_in (x : Int) : (decide (1 ≤ x) && decide (x ≤ 1000000)) = blk x := by
  unfold blk amt
  rw [Bool.eq_iff_iff]
  simp only [Bool.and_eq_true, decide_eq_true_eq]
  omega
theorem amt_bd {x : Int} (h : amt x = true) : 0 ≤ x ∧ x ≤ 1000000 := by
  unfold amt at h
  simpa using h


set_option maxHeartbeats 1600000 in
theorem specBill_any (u : Int) (v v' : Value) (b p : List Int) (w : World) (h : JRow w v b) (h' : JRow w v' p) : Calls Try.prog 36 #[.int .i64 u, v, v'] w (IntB (bllS u b p) (bllB u b p) w) := by
  have HP := Lib.hid (specPrc_any v' p w h')
  have HB := Lib.hid (rfl : (0 = 0))
  have HC := Lib.hid (fun w1 (hb : Below w.heap.size w w1) (hn : 1 ≤ b.length) => (h.below hb).cells hn)
  have HC' := Lib.hid (fun w1 (hb : Below w.heap.size w w1) (hn : 1 ≤ p.length) => (h'.below hb).cells hn)
  have LB := Lib.hid h.len
  obtain ⟨a, cap, rfl⟩ := h.shape
  obtain ⟨a', cap', rfl⟩ := h'.shape
  clear h h'
  cases BA : amt u
  · skip
    have E := Lib.hid (show bllB u b p = false by unfold bllB; simp [BA])
    have HA := Lib.hid BA
    have gL := LB.out
    clear BA
    go_enter Try.func36, Try.ntmps36
    go_wp2_with fail
    refine (in_any u _ _ _).mono ?_
    rw [show (decide (0 ≤ u) && decide (u ≤ 1000000)) = _ from HA.out]
    rintro e w' ⟨rfl, rfl⟩
    go_wp2
    go_ret2
    exact bll_no E.out (by repeat (first | exact Bw.out | exact Below.refl _ _ | refine below_drewN ?_ _))
  · skip
    by_cases BL : b.length ≤ 16
    rotate_left
    · skip
      have E := Lib.hid (show bllB u b p = false by unfold bllB; simp [BA, BL])
      have HA := Lib.hid BA
      have f0 : decide ((16 : Int) < (b.length : Int)) = true := by simp; omega
      have gL := LB.out
      clear BA
      generalize b.length = nb at *
      generalize p.length = np at *
      go_enter Try.func36, Try.ntmps36
      go_wp2_with fail
      refine (in_any u _ _ _).mono ?_
      rw [show (decide (0 ≤ u) && decide (u ≤ 1000000)) = _ from HA.out]
      rintro e w' ⟨rfl, rfl⟩
      go_wp2
      go_ret2
      exact bll_no E.out (by repeat (first | exact Bw.out | exact Below.refl _ _ | refine below_drewN ?_ _))
    · skip
      by_cases BN : p.length = b.length + 1
      rotate_left
      · skip
        have E := Lib.hid (show bllB u b p = false by unfold bllB; simp [BA, BL, BN])
        have HA := Lib.hid BA
        have f0 : decide ((16 : Int) < (b.length : Int)) = false := by simp; omega
        have w0 : (b.length : Int) + 1 ≤ 17 := by omega
        have f1 : ((p.length : Int) == (b.length : Int) + 1) = false := by simp; omega
        have f2 : ((p.length : Int) != (b.length : Int) + 1) = true := by simp; omega
        have gL := LB.out
        clear BA BN
        clear BL
        generalize b.length = nb at *
        generalize p.length = np at *
        go_enter Try.func36, Try.ntmps36
        go_wp2_with fail
        refine (in_any u _ _ _).mono ?_
        rw [show (decide (0 ≤ u) && decide (u ≤ 1000000)) = _ from HA.out]
        rintro e w' ⟨rfl, rfl⟩
        go_wp2
        go_ret2
        exact bll_no E.out (by repeat (first | exact Bw.out | exact Below.refl _ _ | refine below_drewN ?_ _))
      · skip
        cases BP : prc p
        · skip
          have E := Lib.hid (show bllB u b p = false by unfold bllB; simp [BA, BL, BN, BP])
          have HA := Lib.hid BA
          have f0 : decide ((16 : Int) < (b.length : Int)) = false := by simp; omega
          have w0 : (b.length : Int) + 1 ≤ 17 := by omega
          have f1 : ((p.length : Int) == (b.length : Int) + 1) = true := by simp; omega
          have f2 : ((p.length : Int) != (b.length : Int) + 1) = false := by simp; omega
          rw [BP] at HP
          have gL := LB.out
          clear BA BN BP
          clear BL
          generalize b.length = nb at *
          generalize p.length = np at *
          go_enter Try.func36, Try.ntmps36
          go_wp2_with fail
          refine (in_any u _ _ _).mono ?_
          rw [show (decide (0 ≤ u) && decide (u ≤ 1000000)) = _ from HA.out]
          rintro e w' ⟨rfl, rfl⟩
          go_wp2_with fail
          refine HP.out.mono ?_
          rintro e w' ⟨rfl, q, rfl⟩
          go_wp2
          go_ret2
          exact bll_no E.out (by repeat (first | exact Bw.out | exact Below.refl _ _ | refine below_drewN ?_ _))
        · skip
          have hp : ∀ k, k < p.length → 0 ≤ p.getD k 0 ∧ p.getD k 0 ≤ 1000000 := fun k hk => prc_at BP k hk
          have hu := amt_bd BA
          have LF := Lib.hid (fun k hk => lft_bd (b := b) hu k hk)
          have BD := Lib.hid (fun k (hk : k ≤ b.length + 1) h => bil_bd (b := b) (p := p) (n := b.length + 1) hu (fun j hj => hp j (by omega)) k hk h)
          have HPB := Lib.hid (fun k (hk : k ≤ b.length) => hp k (by omega))
          have HS := Lib.hid (fun k => show bil u b p (k + 1) = bil u b p k + mn (lft u b k) (b.getD k 0) * p.getD k 0 from rfl)
          have HF := Lib.hid (fun k => show lft u b (k + 1) = lft u b k - mn (lft u b k) (b.getD k 0) from rfl)
          have FIN := Lib.hid (fun (w1 : World) (e : bllB u b p = true) (hb : Below w.heap.size w w1) => bll_yes e hb)
          have VN := Lib.hid (fun k (hk : k < b.length) (h : blk (b.getD k 0) = false) (w1 : World) (hb : Below w.heap.size w w1) => bll_no (u := u) (b := b) (p := p) (show bllB u b p = false by unfold bllB; rw [allJ_none hk h]; simp) hb)
          have VY := Lib.hid (fun (h : ∀ k, k < b.length → blk (b.getD k 0) = true) => show bllB u b p = true by unfold bllB; rw [allJ_some h]; simp [BA, BL, BP, BN])
          have HA := Lib.hid BA
          rw [BP] at HP
          have HN := Lib.hid BN
          have L16 := BL
          rw [BN] at HC' HP ⊢
          clear BA BP BN BL hp
          generalize hnb : b.length = n at *
          clear hnb
          have f0 : decide ((16 : Int) < (n : Int)) = false := by simp; omega
          have w0 : (n : Int) + 1 ≤ 17 := by omega
          have f1 : (((n + 1 : Nat) : Int) == (n : Int) + 1) = true := by simp
          have f2 : (((n + 1 : Nat) : Int) != (n : Int) + 1) = false := by simp
          go_enter Try.func36, Try.ntmps36
          go_wp2_with fail
          refine (in_any u _ _ _).mono ?_
          rw [show (decide (0 ≤ u) && decide (u ≤ 1000000)) = _ from HA.out]
          rintro e w' ⟨rfl, rfl⟩
          go_wp2_with fail
          refine HP.out.mono ?_
          rintro e w' ⟨rfl, q, rfl⟩
          go_wp2
          go_loopw [0, 8, 9, 10] (fun l s i _ wr => ∃ k q : Nat, k ≤ n ∧ i = .int .i64 k ∧ l = .int .i64 (lft u b k) ∧ s = .int .i64 (bil u b p k) ∧ Hid (∀ j, j < k → blk (b.getD j 0) = true) ∧ wr = w.drewN q) (fun _ _ i _ _ => n - (intOf i).toNat)
          case atStart => exact ⟨0, _, Nat.zero_le _, rfl, rfl, rfl, Lib.hid (fun j hj => absurd hj (Nat.not_lt_zero _)), rfl⟩
          case round =>
            obtain ⟨k, q, hk, rfl, rfl, rfl, hall, rfl⟩ := hrel
            have Bw := Lib.hid (below_drewN (Below.refl w.heap.size w) q)
            have hl := LF.out k hall.out
            have hs := BD.out k (by omega) hall.out
            have hy := HPB.out k hk
            obtain ⟨b1, o1, c1, e', hc'⟩ := HC'.out _ Bw.out (by omega)
            have ea' : a' = some ⟨b1, o1, none⟩ := by cases e'; rfl
            have z1 := hc' k (by omega)
            clear e' hc'
            subst ea'
            have hi : (0 : Int) ≤ (k : Int) := by omega
            have hi' : (k : Int) < (n : Int) + 1 := by omega
            have hj' : (k : Int) < ((n + 1 : Nat) : Int) := by omega
            by_cases hlt : k < n
            · obtain ⟨b0, o0, c0, e, hc⟩ := HC.out _ Bw.out (by omega)
              have ea : a = some ⟨b0, o0, none⟩ := by cases e; rfl
              have z0 := hc k hlt
              have SS := Lib.hid (HS.out k)
              have SF := Lib.hid (HF.out k)
              have VNk := Lib.hid (VN.out k hlt)
              clear e hc
              subst ea
              have hi'' : (k : Int) < (n : Int) := by omega
              generalize hx : b.getD k 0 = x at *
              generalize p.getD k 0 = y at *
              cases S : blk x
              · have VNk := Lib.hid (VNk.out S)
                have S' := Lib.hid S
                have IN := Lib.hid ((blk_in x).trans S)
                clear S
                go_wp2_with fail
                refine (in_any x _ _ _).mono ?_
                rw [IN.out]
                rintro e w' ⟨rfl, rfl⟩
                go_wp2
                go_ret2
                exact VNk.out _ Bw.out
              · have V := Lib.hid (show blk (b.getD k 0) = true by rw [hx, S])
                have IN := Lib.hid ((blk_in x).trans S)
                have hx1 := blk_bd S
                have hm := mn_bd hl (by omega : 0 ≤ x)
                have hm2 := mul_amt (x := mn (lft u b k) x) (y := y) (by omega) hy
                clear S hx VNk
                have mm := Lib.hid (min_any (lft u b k) x)
                generalize mn (lft u b k) x = m at *
                generalize lft u b k = l at *
                generalize bil u b p k = c at *
                go_wp2_with fail
                refine (in_any x _ _ _).mono ?_
                rw [IN.out]
                rintro e w' ⟨rfl, rfl⟩
                go_wp2_with fail
                refine (mm.out _).mono ?_
                rintro e w' ⟨rfl, rfl⟩
                go_wp2
                try go_region
                all_goals go_wp2
                go_roundw
                case rel => exact ⟨k + 1, _, by omega, by go_num, by rw [SF.out], by rw [SS.out], Lib.hid (fun j hj => by rcases Nat.lt_succ_iff_lt_or_eq.1 hj with h | h; exact hall.out j h; subst h; exact V.out), rfl⟩
                case measure => simp [intOf]; omega
            · have e := Lib.hid (show k = n by omega)
              have ek : k = n := e.out
              subst ek
              have FIN := Lib.hid (FIN.out _ (VY.out hall.out) Bw.out)
              have hm2 := mul_amt (x := lft u b k) (y := p.getD k 0) (by omega) hy
              generalize lft u b k = l at *
              generalize bil u b p k = c at *
              generalize p.getD k 0 = y at *
              clear hall
              go_wp2
              try go_region
              all_goals go_wp2
              go_ret2
              exact FIN.out
          

set_option maxHeartbeats 1600000 in
theorem implBill_any (u : Int) (v v' : Value) (b p : List Int) (w : World) (h : JRow w v b) (h' : JRow w v' p) : Calls Try.prog 37 #[.int .i64 u, v, v'] w (IntB (bllS u b p) (bllB u b p) w) := by
  have HP := Lib.hid (fun w1 (hb : Below w.heap.size w w1) => implPrc_any v' p w1 (h'.below hb))
  have HB := Lib.hid (fun w1 (hb : Below w.heap.size w w1) => allBlk_any v b w1 (h.below hb))
  have HC := Lib.hid (fun w1 (hb : Below w.heap.size w w1) (hn : 1 ≤ b.length) => (h.below hb).cells hn)
  have HC' := Lib.hid (fun w1 (hb : Below w.heap.size w w1) (hn : 1 ≤ p.length) => (h'.below hb).cells hn)
  have LB := Lib.hid h.len
  obtain ⟨a, cap, rfl⟩ := h.shape
  obtain ⟨a', cap', rfl⟩ := h'.shape
  clear h h'
  cases BA : amt u
  · skip
    have E := Lib.hid (show bllB u b p = false by unfold bllB; simp [BA])
    have HA := Lib.hid BA
    have gL := LB.out
    clear BA
    go_enter Try.func37, Try.ntmps37
    go_wp2_with fail
    refine (implAmt_any u _).mono ?_
    rw [HA.out]
    rintro e w' ⟨rfl, q, rfl⟩
    have Bw := Lib.hid (below_drewN (Below.refl w.heap.size w) q)
    go_wp2
    go_ret2
    exact bll_no E.out (by repeat (first | exact Bw.out | exact Below.refl _ _ | refine below_drewN ?_ _))
  · skip
    by_cases BL : b.length ≤ 16
    rotate_left
    · skip
      have E := Lib.hid (show bllB u b p = false by unfold bllB; simp [BA, BL])
      have HA := Lib.hid BA
      have f0 : decide ((16 : Int) < (b.length : Int)) = true := by simp; omega
      have gL := LB.out
      clear BA
      generalize b.length = nb at *
      generalize p.length = np at *
      go_enter Try.func37, Try.ntmps37
      go_wp2_with fail
      refine (implAmt_any u _).mono ?_
      rw [HA.out]
      rintro e w' ⟨rfl, q, rfl⟩
      have Bw := Lib.hid (below_drewN (Below.refl w.heap.size w) q)
      go_wp2
      go_ret2
      exact bll_no E.out (by repeat (first | exact Bw.out | exact Below.refl _ _ | refine below_drewN ?_ _))
    · skip
      cases BK : b.all blk
      · skip
        have E := Lib.hid (show bllB u b p = false by unfold bllB; simp [BA, BL, BK])
        have HA := Lib.hid BA
        have f0 : decide ((16 : Int) < (b.length : Int)) = false := by simp; omega
        have HK := Lib.hid BK
        have gL := LB.out
        clear BA BK
        clear BL
        generalize b.length = nb at *
        generalize p.length = np at *
        go_enter Try.func37, Try.ntmps37
        go_wp2_with fail
        refine (implAmt_any u _).mono ?_
        rw [HA.out]
        rintro e w' ⟨rfl, q, rfl⟩
        have Bw := Lib.hid (below_drewN (Below.refl w.heap.size w) q)
        go_wp2_with fail
        refine (HB.out _ Bw.out).mono ?_
        rw [HK.out]
        rintro e w' ⟨rfl, hb⟩
        have Bw := Lib.hid (below_step Bw.out hb)
        clear hb
        go_wp2
        go_ret2
        exact bll_no E.out (by repeat (first | exact Bw.out | exact Below.refl _ _ | refine below_drewN ?_ _))
      · skip
        cases BP : prc p
        · skip
          have E := Lib.hid (show bllB u b p = false by unfold bllB; simp [BA, BL, BK, BP])
          have HA := Lib.hid BA
          have f0 : decide ((16 : Int) < (b.length : Int)) = false := by simp; omega
          have HK := Lib.hid BK
          have HPP := Lib.hid BP
          have gL := LB.out
          clear BA BK BP
          clear BL
          generalize b.length = nb at *
          generalize p.length = np at *
          go_enter Try.func37, Try.ntmps37
          go_wp2_with fail
          refine (implAmt_any u _).mono ?_
          rw [HA.out]
          rintro e w' ⟨rfl, q, rfl⟩
          have Bw := Lib.hid (below_drewN (Below.refl w.heap.size w) q)
          go_wp2_with fail
          refine (HB.out _ Bw.out).mono ?_
          rw [HK.out]
          rintro e w' ⟨rfl, hb⟩
          have Bw := Lib.hid (below_step Bw.out hb)
          clear hb
          go_wp2_with fail
          refine (HP.out _ Bw.out).mono ?_
          rw [HPP.out]
          rintro e w' ⟨rfl, hb⟩
          have Bw := Lib.hid (below_step Bw.out hb)
          clear hb
          go_wp2
          go_ret2
          exact bll_no E.out (by repeat (first | exact Bw.out | exact Below.refl _ _ | refine below_drewN ?_ _))
        · skip
          by_cases BN : p.length = b.length + 1
          rotate_left
          · skip
            have E := Lib.hid (show bllB u b p = false by unfold bllB; simp [BA, BL, BK, BP, BN])
            have HA := Lib.hid BA
            have f0 : decide ((16 : Int) < (b.length : Int)) = false := by simp; omega
            have HK := Lib.hid BK
            have HPP := Lib.hid BP
            have w0 : (b.length : Int) + 1 ≤ 17 := by omega
            have f1 : ((p.length : Int) == (b.length : Int) + 1) = false := by simp; omega
            have f2 : ((p.length : Int) != (b.length : Int) + 1) = true := by simp; omega
            have gL := LB.out
            clear BA BK BP BN
            clear BL
            generalize b.length = nb at *
            generalize p.length = np at *
            go_enter Try.func37, Try.ntmps37
            go_wp2_with fail
            refine (implAmt_any u _).mono ?_
            rw [HA.out]
            rintro e w' ⟨rfl, q, rfl⟩
            have Bw := Lib.hid (below_drewN (Below.refl w.heap.size w) q)
            go_wp2_with fail
            refine (HB.out _ Bw.out).mono ?_
            rw [HK.out]
            rintro e w' ⟨rfl, hb⟩
            have Bw := Lib.hid (below_step Bw.out hb)
            clear hb
            go_wp2_with fail
            refine (HP.out _ Bw.out).mono ?_
            rw [HPP.out]
            rintro e w' ⟨rfl, hb⟩
            have Bw := Lib.hid (below_step Bw.out hb)
            clear hb
            go_wp2
            go_ret2
            exact bll_no E.out (by repeat (first | exact Bw.out | exact Below.refl _ _ | refine below_drewN ?_ _))
          · skip
            have hp : ∀ k, k < p.length → 0 ≤ p.getD k 0 ∧ p.getD k 0 ≤ 1000000 := fun k hk => prc_at BP k hk
            have hu := amt_bd BA
            have LF := Lib.hid (fun k hk => lft_bd (b := b) hu k hk)
            have BD := Lib.hid (fun k (hk : k ≤ b.length + 1) h => bil_bd (b := b) (p := p) (n := b.length + 1) hu (fun j hj => hp j (by omega)) k hk h)
            have HPB := Lib.hid (fun k (hk : k ≤ b.length) => hp k (by omega))
            have HS := Lib.hid (fun k => show bil u b p (k + 1) = bil u b p k + mn (lft u b k) (b.getD k 0) * p.getD k 0 from rfl)
            have HF := Lib.hid (fun k => show lft u b (k + 1) = lft u b k - mn (lft u b k) (b.getD k 0) from rfl)
            have FIN := Lib.hid (fun (w1 : World) (e : bllB u b p = true) (hb : Below w.heap.size w w1) => bll_yes e hb)
            have FIN := Lib.hid (fun (w1 : World) (hb : Below w.heap.size w w1) => FIN.out w1 (by unfold bllB; simp [BA, BL, BP, BN, BK]) hb)
            have HK := Lib.hid BK
            have HPP := Lib.hid BP
            have ALL := Lib.hid (fun k (hk : k < b.length) => show blk (b.getD k 0) = true from (List.all_eq_true.1 BK) _ (by simp [List.getD_eq_getElem?_getD, hk]))
            have HA := Lib.hid BA
            have HN := Lib.hid BN
            have L16 := BL
            rw [BN] at HC' HP ⊢
            clear BA BP BN BL hp BK
            generalize hnb : b.length = n at *
            clear hnb
            have f0 : decide ((16 : Int) < (n : Int)) = false := by simp; omega
            have w0 : (n : Int) + 1 ≤ 17 := by omega
            have f1 : (((n + 1 : Nat) : Int) == (n : Int) + 1) = true := by simp
            have f2 : (((n + 1 : Nat) : Int) != (n : Int) + 1) = false := by simp
            go_enter Try.func37, Try.ntmps37
            go_wp2_with fail
            refine (implAmt_any u _).mono ?_
            rw [HA.out]
            rintro e w' ⟨rfl, q, rfl⟩
            have Bw := Lib.hid (below_drewN (Below.refl w.heap.size w) q)
            go_wp2_with fail
            refine (HB.out _ Bw.out).mono ?_
            rw [HK.out]
            rintro e w' ⟨rfl, hb⟩
            have Bw := Lib.hid (below_step Bw.out hb)
            clear hb
            go_wp2_with fail
            refine (HP.out _ Bw.out).mono ?_
            rw [HPP.out]
            rintro e w' ⟨rfl, hb⟩
            have Bw := Lib.hid (below_step Bw.out hb)
            clear hb
            have HC := Lib.hid (HC.out _ Bw.out)
            have HC' := Lib.hid (HC'.out _ Bw.out)
            have FIN := Lib.hid (FIN.out _ Bw.out)
            go_wp2
            go_loop [9, 10, 11, 12, 13, 44] (fun s l _ _ _ i => ∃ k : Nat, k ≤ n ∧ i = .int .i64 k ∧ l = .int .i64 (lft u b k) ∧ s = .int .i64 (bil u b p k)) (fun _ _ _ _ _ i => n - (intOf i).toNat)
            case atStart => exact ⟨0, Nat.zero_le _, rfl, rfl, rfl⟩
            case round =>
              obtain ⟨k, hk, rfl, rfl, rfl⟩ := hrel
              have hl := LF.out k (fun j hj => ALL.out j (by omega))
              have hs := BD.out k (by omega) (fun j hj => ALL.out j (by omega))
              have hy := HPB.out k hk
              obtain ⟨b1, o1, c1, e', hc'⟩ := HC'.out (by omega)
              have ea' : a' = some ⟨b1, o1, none⟩ := by cases e'; rfl
              have z1 := hc' k (by omega)
              clear e' hc'
              subst ea'
              have hi : (0 : Int) ≤ (k : Int) := by omega
              have hi' : (k : Int) < (n : Int) + 1 := by omega
              have hj' : (k : Int) < ((n + 1 : Nat) : Int) := by omega
              by_cases hlt : k < n
              · obtain ⟨b0, o0, c0, e, hc⟩ := HC.out (by omega)
                have ea : a = some ⟨b0, o0, none⟩ := by cases e; rfl
                have z0 := hc k hlt
                have SS := Lib.hid (HS.out k)
                have SF := Lib.hid (HF.out k)
                have hx1 := blk_bd (ALL.out k hlt)
                clear e hc
                subst ea
                have hi'' : (k : Int) < (n : Int) := by omega
                generalize b.getD k 0 = x at *
                generalize p.getD k 0 = y at *
                have hm := mn_bd hl (by omega : 0 ≤ x)
                have hm2 := mul_amt (x := mn (lft u b k) x) (y := y) (by omega) hy
                have em : (if x < lft u b k then x else lft u b k) = mn (lft u b k) x := rfl
                generalize hmm : mn (lft u b k) x = m at *
                clear hmm
                generalize lft u b k = l at *
                generalize bil u b p k = c at *
                go_wp2_with (rw [em])
                try go_region
                all_goals go_wp2
                go_round
                case rel => exact ⟨k + 1, by omega, by go_num, by rw [SF.out], by rw [SS.out]⟩
                case measure => simp [intOf]; omega
              · have e := Lib.hid (show k = n by omega)
                have ek : k = n := e.out
                subst ek
                have hm2 := mul_amt (x := lft u b k) (y := p.getD k 0) (by omega) hy
                generalize lft u b k = l at *
                generalize bil u b p k = c at *
                generalize p.getD k 0 = y at *
                go_wp2
                try go_region
                all_goals go_wp2
                go_ret2
                exact FIN.out
            

set_option maxHeartbeats 800000 in
theorem fnExactBlockBill_walk (u : Int) (v1 : Value) (b : List Int) (v2 : Value) (p : List Int) (w : World) (wf0 : (Lit.int .i64 u).wf = true) (h1' : IRow .i64 w v1 b ∧ ∀ i, i < b.length → (Lit.int .i64 (b.getD i 0)).wf = true) (h2' : IRow .i64 w v2 p ∧ ∀ i, i < p.length → (Lit.int .i64 (p.getD i 0)).wf = true) : Calls Try.prog 10 #[.int .i64 u, v1, v2] w (Tru w) := by
  have h1 : JRow w v1 b := h1'.1
  clear h1'
  have h2 : JRow w v2 p := h2'.1
  clear h2'
  clear wf0
  by_cases hl1 : b.length ≤ 1048576
  rotate_left
  · skip
    have G1 := Lib.hid h1.len
    have G2 := Lib.hid h2.len
    obtain ⟨s1, c1, rfl⟩ := h1.shape
    obtain ⟨s2, c2, rfl⟩ := h2.shape
    clear h1
    clear h2
    have g1 := G1.out
    have g2 := G2.out
    go_enter Try.func10, Try.ntmps10
    go_wp2
    go_ret
    exact Tru.same
  by_cases hl2 : p.length ≤ 1048576
  rotate_left
  · skip
    have G1 := Lib.hid h1.len
    have G2 := Lib.hid h2.len
    obtain ⟨s1, c1, rfl⟩ := h1.shape
    obtain ⟨s2, c2, rfl⟩ := h2.shape
    clear h1
    clear h2
    have g1 := G1.out
    have g2 := G2.out
    go_enter Try.func10, Try.ntmps10
    go_wp2
    go_ret
    exact Tru.same
  have HL1 := Lib.hid hl1
  have A1 := Lib.hid h1
  have HL2 := Lib.hid hl2
  have A2 := Lib.hid h2
  have Bw := Lib.hid (Below.refl w.heap.size w)
  obtain ⟨s1, c1, rfl⟩ := h1.shape
  obtain ⟨s2, c2, rfl⟩ := h2.shape
  clear h1
  clear h2
  go_enter Try.func10, Try.ntmps10
  go_wp2_with fail
  refine (toJ_any _ b _ A1.out HL1.out).mono ?_
  rintro _ w1 ⟨x1, rfl, hx, hb⟩
  have A1 := Lib.hid (A1.out.below hb)
  have A2 := Lib.hid (A2.out.below hb)
  have Bw := Lib.hid (below_step Bw.out hb)
  clear hb
  have X1 := Lib.hid hx
  clear hx
  go_wp2_with fail
  refine (toJ_any _ p _ A2.out HL2.out).mono ?_
  rintro _ w2 ⟨x2, rfl, hx, hb⟩
  have A1 := Lib.hid (A1.out.below hb)
  have A2 := Lib.hid (A2.out.below hb)
  have X1 := Lib.hid (X1.out.below hb)
  have Bw := Lib.hid (below_step Bw.out hb)
  clear hb
  have X2 := Lib.hid hx
  clear hx
  go_wp2_with fail
  refine (specBill_any u _ _ b p _ X1.out X2.out).mono ?_
  rintro _ w3 ⟨rfl, hb⟩
  have A1 := Lib.hid (A1.out.below hb)
  have A2 := Lib.hid (A2.out.below hb)
  have X1 := Lib.hid (X1.out.below hb)
  have X2 := Lib.hid (X2.out.below hb)
  have Bw := Lib.hid (below_step Bw.out hb)
  clear hb
  clear X1
  clear X2
  go_wp2_with fail
  refine (toJ_any _ b _ A1.out HL1.out).mono ?_
  rintro _ w4 ⟨x4, rfl, hx, hb⟩
  have A1 := Lib.hid (A1.out.below hb)
  have A2 := Lib.hid (A2.out.below hb)
  have Bw := Lib.hid (below_step Bw.out hb)
  clear hb
  have X1 := Lib.hid hx
  clear hx
  go_wp2_with fail
  refine (toJ_any _ p _ A2.out HL2.out).mono ?_
  rintro _ w5 ⟨x5, rfl, hx, hb⟩
  have A1 := Lib.hid (A1.out.below hb)
  have A2 := Lib.hid (A2.out.below hb)
  have X1 := Lib.hid (X1.out.below hb)
  have Bw := Lib.hid (below_step Bw.out hb)
  clear hb
  have X2 := Lib.hid hx
  clear hx
  go_wp2_with fail
  refine (implBill_any u _ _ b p _ X1.out X2.out).mono ?_
  rintro _ w6 ⟨rfl, hb⟩
  have A1 := Lib.hid (A1.out.below hb)
  have A2 := Lib.hid (A2.out.below hb)
  have X1 := Lib.hid (X1.out.below hb)
  have X2 := Lib.hid (X2.out.below hb)
  have Bw := Lib.hid (below_step Bw.out hb)
  clear hb
  go_wp2_with fail
  refine (toJ_any _ b _ A1.out HL1.out).mono ?_
  rintro _ w7 ⟨x7, rfl, hx, hb⟩
  have A1 := Lib.hid (A1.out.below hb)
  have A2 := Lib.hid (A2.out.below hb)
  have X1 := Lib.hid (X1.out.below hb)
  have X2 := Lib.hid (X2.out.below hb)
  have Bw := Lib.hid (below_step Bw.out hb)
  clear hb
  have Y1 := Lib.hid hx
  clear hx
  go_wp2_with fail
  refine (eqJB_any _ _ b _ X1.out Y1.out).mono ?_
  rintro _ w8 ⟨rfl, hb⟩
  have A1 := Lib.hid (A1.out.below hb)
  have A2 := Lib.hid (A2.out.below hb)
  have X1 := Lib.hid (X1.out.below hb)
  have X2 := Lib.hid (X2.out.below hb)
  have Y1 := Lib.hid (Y1.out.below hb)
  have Bw := Lib.hid (below_step Bw.out hb)
  clear hb
  clear Y1
  go_wp2_with fail
  refine (toJ_any _ p _ A2.out HL2.out).mono ?_
  rintro _ w9 ⟨x9, rfl, hx, hb⟩
  have A1 := Lib.hid (A1.out.below hb)
  have A2 := Lib.hid (A2.out.below hb)
  have X1 := Lib.hid (X1.out.below hb)
  have X2 := Lib.hid (X2.out.below hb)
  have Bw := Lib.hid (below_step Bw.out hb)
  clear hb
  have Y2 := Lib.hid hx
  clear hx
  go_wp2_with fail
  refine (eqJB_any _ _ p _ X2.out Y2.out).mono ?_
  rintro _ w10 ⟨rfl, hb⟩
  have A1 := Lib.hid (A1.out.below hb)
  have A2 := Lib.hid (A2.out.below hb)
  have X1 := Lib.hid (X1.out.below hb)
  have X2 := Lib.hid (X2.out.below hb)
  have Y2 := Lib.hid (Y2.out.below hb)
  have Bw := Lib.hid (below_step Bw.out hb)
  clear hb
  clear Y2
  go_wp2
  go_ret
  exact Tru.below Bw.out

end Go.Proofs.Ytjkokhdbkmjenaa
