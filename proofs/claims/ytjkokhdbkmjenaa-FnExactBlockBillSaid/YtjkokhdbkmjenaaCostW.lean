/- What units cost: both sides, and the law. -/
import Derived.Test.YtjkokhdbkmjenaaPrc
namespace Go.Proofs.Ytjkokhdbkmjenaa
open Go.RowKit
set_option linter.unusedVariables false

/-- what the first k units cost -/
def cst (u p : List Int) : Nat → Int
  | 0 => 0
  | k + 1 => cst u p k + u.getD k 0 * p.getD k 0
def cstB (u p : List Int) : Bool := prc u && prc p && decide (u.length = p.length)
def cstS (u p : List Int) : Int := bif cstB u p then cst u p p.length else 0
theorem mul_amt {x y : Int} (hx : 0 ≤ x ∧ x ≤ 1000000) (hy : 0 ≤ y ∧ y ≤ 1000000) : 0 ≤ x * y ∧ x * y ≤ 1000000000000 := by
  refine ⟨Int.mul_nonneg hx.1 hy.1, ?_⟩
  have := Int.mul_le_mul hx.2 hy.2 hy.1 (by omega)
  simpa using this
theorem cst_bd {u p : List Int} {n : Nat} (hu : ∀ k, k < n → 0 ≤ u.getD k 0 ∧ u.getD k 0 ≤ 1000000) (hp : ∀ k, k < n → 0 ≤ p.getD k 0 ∧ p.getD k 0 ≤ 1000000) : ∀ k, k ≤ n → 0 ≤ cst u p k ∧ cst u p k ≤ 1000000000000 * (k : Int) := by
  intro k
  induction k with
  | zero => intro _; exact ⟨Int.le_refl _, by simp [cst]⟩
  | succ k ih =>
    intro hk
    have h1 := ih (by omega)
    have h2 := mul_amt (hu k (by omega)) (hp k (by omega))
    unfold cst
    generalize u.getD k 0 * p.getD k 0 = m at *
    omega
/-- an integer and a bool; nothing that was there has turned -/
def IntB (S : Int) (b : Bool) (w : World) (e : Ending) (w' : World) : Prop := e = .returned (.tuple #[.int .i64 S, .bool b]) ∧ Below w.heap.size w w'
theorem cst_no {u p : List Int} {w w' : World} (h : cstB u p = false) (hb : Below w.heap.size w w') : IntB (cstS u p) (cstB u p) w (.returned (.tuple #[.int .i64 0, .bool false])) w' := by
  unfold cstS; rw [h]; exact ⟨rfl, hb⟩
theorem cst_yes {u p : List Int} {w w' : World} {x : Int} (h : cstB u p = true) (hx : x = cst u p p.length) (hb : Below w.heap.size w w') : IntB (cstS u p) (cstB u p) w (.returned (.tuple #[.int .i64 x, .bool true])) w' := by
  unfold cstS; rw [h, hx]; exact ⟨rfl, hb⟩

theorem specCost_any (v v' : Value) (u p : List Int) (w : World) (h : JRow w v u) (h' : JRow w v' p) (hn : u.length = p.length) (hl : p.length ≤ 96)
    (hu : ∀ k, k < p.length → 0 ≤ u.getD k 0 ∧ u.getD k 0 ≤ 1000000) (hp : ∀ k, k < p.length → 0 ≤ p.getD k 0 ∧ p.getD k 0 ≤ 1000000) :
    Calls Try.prog 66 #[v, v'] w fun e w' => e = .returned (.int .i64 (cst u p p.length)) ∧ ∃ n, w' = w.drewN n := by
  have HC := Lib.hid (fun (hn : 1 ≤ u.length) => h.cells hn)
  have HC' := Lib.hid (fun (hn : 1 ≤ p.length) => h'.cells hn)
  obtain ⟨a, cap, rfl⟩ := h.shape
  obtain ⟨a', cap', rfl⟩ := h'.shape
  rw [hn] at HC ⊢
  have BD := Lib.hid (cst_bd hu hp)
  have HM := Lib.hid (fun k (hk : k < p.length) => mul_amt (hu k hk) (hp k hk))
  have HS := Lib.hid (fun k => show cst u p (k + 1) = cst u p k + u.getD k 0 * p.getD k 0 from rfl)
  clear h h' hn hu hp
  generalize hn : p.length = n at *
  clear hn
  go_enter Try.func66, Try.ntmps66
  go_wp2
  go_loopw [5, 6] (fun s i wr => ∃ k q : Nat, k ≤ n ∧ i = .int .i64 k ∧ s = .int .i64 (cst u p k) ∧ wr = w.drewN q) (fun _ i _ => n - (intOf i).toNat)
  case atStart => exact ⟨0, 0, Nat.zero_le _, rfl, rfl, rfl⟩
  case round =>
    obtain ⟨k, q, hk, rfl, rfl, rfl⟩ := hrel
    by_cases hlt : k < n
    · obtain ⟨b0, o0, c0, e, hc⟩ := HC.out (by omega)
      obtain ⟨b1, o1, c1, e', hc'⟩ := HC'.out (by omega)
      have ea : a = some ⟨b0, o0, none⟩ := by cases e; rfl
      have ea' : a' = some ⟨b1, o1, none⟩ := by cases e'; rfl
      have z0 := hc k hlt
      have z1 := hc' k hlt
      have hb := BD.out k hk
      have hm := HM.out k hlt
      have ST := Lib.hid (HS.out k)
      clear e hc e' hc'
      subst ea
      subst ea'
      generalize u.getD k 0 = x at *
      generalize p.getD k 0 = y at *
      generalize cst u p k = c at *
      have hi : (0 : Int) ≤ (k : Int) := by omega
      have hi' : (k : Int) < (n : Int) := by omega
      go_wp2
      go_region
      go_wp2
      go_roundw
      case rel => exact ⟨k + 1, _, by omega, by go_num, by rw [ST.out], rfl⟩
      case measure => simp [intOf]; omega
    · have e := Lib.hid (show k = n by omega)
      go_wp2
      go_ret
      have := e.out
      subst this
      exact ⟨rfl, _, rfl⟩

theorem implUnits_any (v v' : Value) (p u : List Int) (w : World) (h' : JRow w v p) (h : JRow w v' u) : Calls Try.prog 67 #[v, v'] w (BolB (prc p && decide (u.length = p.length) && u.all amt) w) := by
  have HS := Lib.hid (implPrc_any v p w h')
  have HA := Lib.hid (fun w1 (hb : Below w.heap.size w w1) => allAmt_any v' u w1 (h.below hb))
  obtain ⟨a, cap, rfl⟩ := h.shape
  obtain ⟨a', cap', rfl⟩ := h'.shape
  clear h h'
  cases B : prc p
  · rw [B] at HS
    go_enter Try.func67, Try.ntmps67
    go_wp2_with fail
    refine HS.out.mono ?_
    rintro e w1 ⟨rfl, hb⟩
    go_wp2
    go_ret
    exact ⟨ret_b (by simp), hb⟩
  · rw [B] at HS
    generalize p.length = m at *
    by_cases hn : u.length = m
    · have HN := Lib.hid hn
      have f0 : ((u.length : Int) == (m : Int)) = true := by simp; omega
      clear hn
      go_enter Try.func67, Try.ntmps67
      go_wp2_with fail
      refine HS.out.mono ?_
      rintro e w1 ⟨rfl, hb⟩
      have Bw := Lib.hid hb
      clear hb
      go_wp2_with fail
      refine (HA.out _ Bw.out).mono ?_
      rintro e w2 ⟨rfl, hb⟩
      have Bw := Lib.hid (below_step Bw.out hb)
      clear hb
      go_wp2
      go_ret
      exact ⟨ret_b (by simp [HN.out]), Bw.out⟩
    · have HN := Lib.hid hn
      have f0 : ((u.length : Int) == (m : Int)) = false := by simp; omega
      clear hn
      go_enter Try.func67, Try.ntmps67
      go_wp2_with fail
      refine HS.out.mono ?_
      rintro e w1 ⟨rfl, hb⟩
      have Bw := Lib.hid hb
      clear hb
      go_wp2
      go_ret
      exact ⟨ret_b (by simp [HN.out]), Bw.out⟩

theorem units_cst (u p : List Int) : (prc p && decide (u.length = p.length) && u.all amt) = cstB u p := by
  unfold cstB
  cases hp : prc p
  · simp
  · by_cases hn : u.length = p.length
    · have := prc_len hp
      have hs : span u.length = true := by unfold span; simp; omega
      have : prc u = u.all amt := by unfold prc; rw [hs]; rfl
      rw [this]; simp [hn]
    · simp [hn]

set_option maxHeartbeats 400000 in
theorem specCostOf_any (v v' : Value) (u p : List Int) (w : World) (h : JRow w v u) (h' : JRow w v' p) : Calls Try.prog 34 #[v, v'] w (IntB (cstS u p) (cstB u p) w) := by
  have H1 := Lib.hid (specPrc_any v u w h)
  have H2 := Lib.hid (fun n => specPrc_any v' p (w.drewN n) h'.drewN)
  have HC := Lib.hid (fun n hn hl hu hp => specCost_any v v' u p (w.drewN n) h.drewN h'.drewN hn hl hu hp)
  have P1 := Lib.hid (fun (e : prc u = true) => prc_at e)
  have P2 := Lib.hid (fun (e : prc p = true) => prc_at e)
  have PL := Lib.hid (fun (e : prc p = true) => prc_len e)
  obtain ⟨a, cap, rfl⟩ := h.shape
  obtain ⟨a', cap', rfl⟩ := h'.shape
  clear h h'
  cases B1 : prc u
  · have E := Lib.hid (show cstB u p = false by unfold cstB; simp [B1])
    rw [B1] at H1
    clear B1
    generalize u.length = n1 at *
    generalize p.length = n2 at *
    go_enter Try.func34, Try.ntmps34
    go_wp2_with fail
    refine H1.out.mono ?_
    rintro e w1 ⟨rfl, q, rfl⟩
    go_wp2
    go_ret2
    exact cst_no E.out (below_drewN (Below.refl _ _) _)
  · cases B2 : prc p
    · have E := Lib.hid (show cstB u p = false by unfold cstB; simp [B2])
      rw [B1] at H1
      rw [B2] at H2
      clear B1 B2
      generalize u.length = n1 at *
      generalize p.length = n2 at *
      go_enter Try.func34, Try.ntmps34
      go_wp2_with fail
      refine H1.out.mono ?_
      rintro e w1 ⟨rfl, q, rfl⟩
      go_wp2_with fail
      refine (H2.out _).mono ?_
      rintro e w1 ⟨rfl, q1, rfl⟩
      go_wp2
      go_ret2
      exact cst_no E.out (by first | exact below_drewN (Below.refl _ _) _ | exact below_drewN (below_drewN (Below.refl _ _) _) _)
    · by_cases hn : u.length = p.length
      · have E := Lib.hid (show cstB u p = true by unfold cstB; simp [B1, B2, hn])
        have P1 := Lib.hid (P1.out B1)
        have P2 := Lib.hid (P2.out B2)
        have PL := Lib.hid (PL.out B2)
        rw [B1] at H1
        rw [B2] at H2
        have HD := Lib.hid (fun q => HC.out q hn PL.out.2 (fun k hk => P1.out k (by omega)) P2.out)
        have HQ := Lib.hid (fun (w1 : World) (hb : Below w.heap.size w w1) => cst_yes (x := cst u p p.length) E.out rfl hb)
        rw [hn] at H1 HD ⊢
        clear B1 B2 hn P1 P2 PL HC E
        generalize cst u p p.length = C at *
        generalize p.length = n2 at *
        go_enter Try.func34, Try.ntmps34
        go_wp2_with fail
        refine H1.out.mono ?_
        rintro e w1 ⟨rfl, q, rfl⟩
        go_wp2_with fail
        refine (H2.out _).mono ?_
        rintro e w1 ⟨rfl, q1, rfl⟩
        go_wp2_with fail
        first | refine (HD.out _).mono ?_ | (rw [World.drewN_drewN]; refine (HD.out _).mono ?_)
        rintro e w1 ⟨rfl, q2, rfl⟩
        go_wp2
        go_ret2
        exact HQ.out _ (by repeat (first | exact Below.refl _ _ | refine below_drewN ?_ _))
      · have E := Lib.hid (show cstB u p = false by unfold cstB; simp [hn])
        have f0 : ((u.length : Int) == (p.length : Int)) = false := by simp; omega
        rw [B1] at H1
        rw [B2] at H2
        clear B1 B2 hn
        generalize u.length = n1 at *
        generalize p.length = n2 at *
        go_enter Try.func34, Try.ntmps34
        go_wp2_with fail
        refine H1.out.mono ?_
        rintro e w1 ⟨rfl, q, rfl⟩
        go_wp2_with fail
        refine (H2.out _).mono ?_
        rintro e w1 ⟨rfl, q1, rfl⟩
        go_wp2
        go_ret2
        exact cst_no E.out (by repeat (first | exact Below.refl _ _ | refine below_drewN ?_ _))

set_option maxHeartbeats 400000 in
theorem implCostOf_any (v v' : Value) (u p : List Int) (w : World) (h : JRow w v u) (h' : JRow w v' p) : Calls Try.prog 35 #[v, v'] w (IntB (cstS u p) (cstB u p) w) := by
  have H1 := Lib.hid (implUnits_any v' v p u w h' h)
  rw [units_cst] at H1
  cases B : cstB u p
  · have E := Lib.hid B
    rw [← B]
    rw [B] at H1
    obtain ⟨a, cap, rfl⟩ := h.shape
    obtain ⟨a', cap', rfl⟩ := h'.shape
    clear h h' B
    go_enter Try.func35, Try.ntmps35
    go_wp2_with fail
    refine H1.out.mono ?_
    rintro e w1 ⟨rfl, hb⟩
    go_wp2
    go_ret2
    exact cst_no E.out hb
  · have E := Lib.hid B
    rw [← B]
    rw [B] at H1
    unfold cstB at B
    simp only [Bool.and_eq_true, decide_eq_true_eq] at B
    obtain ⟨⟨B1, B2⟩, hn⟩ := B
    have PL := (prc_len B2).2
    have hu : ∀ k, k < p.length → 0 ≤ u.getD k 0 ∧ u.getD k 0 ≤ 1000000 := fun k hk => prc_at B1 k (by omega)
    have hp : ∀ k, k < p.length → 0 ≤ p.getD k 0 ∧ p.getD k 0 ≤ 1000000 := fun k hk => prc_at B2 k hk
    have BD := Lib.hid (cst_bd hu hp)
    have HM := Lib.hid (fun k (hk : k < p.length) => mul_amt (hu k hk) (hp k hk))
    have HS := Lib.hid (fun k => show cst u p (k + 1) = cst u p k + u.getD k 0 * p.getD k 0 from rfl)
    have HC := Lib.hid (fun w1 (hb : Below w.heap.size w w1) (hn : 1 ≤ u.length) => (h.below hb).cells hn)
    have HC' := Lib.hid (fun w1 (hb : Below w.heap.size w w1) (hn : 1 ≤ p.length) => (h'.below hb).cells hn)
    have FIN := Lib.hid (fun (w1 : World) (hb : Below w.heap.size w w1) => cst_yes (x := cst u p p.length) E.out rfl hb)
    obtain ⟨a, cap, rfl⟩ := h.shape
    obtain ⟨a', cap', rfl⟩ := h'.shape
    rw [hn] at HC H1 ⊢
    clear h h' hn B1 B2 hu hp E
    generalize hn : p.length = n at *
    clear hn
    go_enter Try.func35, Try.ntmps35
    go_wp2_with fail
    refine H1.out.mono ?_
    rintro e w1 ⟨rfl, hb⟩
    have HC := Lib.hid (HC.out w1 hb)
    have HC' := Lib.hid (HC'.out w1 hb)
    have FIN := Lib.hid (FIN.out w1 hb)
    clear hb H1
    go_wp2
    go_loop [6, 7, 8, 15] (fun s _ _ i => ∃ k : Nat, k ≤ n ∧ i = .int .i64 k ∧ s = .int .i64 (cst u p k)) (fun _ _ _ i => n - (intOf i).toNat)
    case atStart => exact ⟨0, Nat.zero_le _, rfl, rfl⟩
    case round =>
      obtain ⟨k, hk, rfl, rfl⟩ := hrel
      by_cases hlt : k < n
      · obtain ⟨b0, o0, c0, e, hc⟩ := HC.out (by omega)
        obtain ⟨b1, o1, c1, e', hc'⟩ := HC'.out (by omega)
        have ea : a = some ⟨b0, o0, none⟩ := by cases e; rfl
        have ea' : a' = some ⟨b1, o1, none⟩ := by cases e'; rfl
        have z0 := hc k hlt
        have z1 := hc' k hlt
        have hb := BD.out k hk
        have hm := HM.out k hlt
        have ST := Lib.hid (HS.out k)
        clear e hc e' hc'
        subst ea
        subst ea'
        generalize u.getD k 0 = x at *
        generalize p.getD k 0 = y at *
        generalize cst u p k = c at *
        have hi : (0 : Int) ≤ (k : Int) := by omega
        have hi' : (k : Int) < (n : Int) := by omega
        go_wp2
        go_round
        case rel => exact ⟨k + 1, by omega, by go_num, by rw [ST.out]⟩
        case measure => simp [intOf]; omega
      · have e := Lib.hid (show k = n by omega)
        go_wp2
        go_ret2
        have := e.out
        subst this
        exact FIN.out

theorem eqJB_any (v v' : Value) (zs : List Int) (w : World) (h : JRow w v zs) (h' : JRow w v' zs) : Calls Try.prog 29 #[v, v'] w (BolB true w) :=
  (eqJJ_any v v' zs w h h').mono fun _ _ ⟨he, n, hw⟩ => ⟨he, hw ▸ below_drewN (Below.refl _ _) n⟩

set_option maxHeartbeats 800000 in
theorem fnExactCostOf_walk (v0 : Value) (u : List Int) (v1 : Value) (p : List Int) (w : World) (h0' : IRow .i64 w v0 u ∧ ∀ i, i < u.length → (Lit.int .i64 (u.getD i 0)).wf = true) (h1' : IRow .i64 w v1 p ∧ ∀ i, i < p.length → (Lit.int .i64 (p.getD i 0)).wf = true) : Calls Try.prog 9 #[v0, v1] w (Tru w) := by
  have h0 : JRow w v0 u := h0'.1
  clear h0'
  have h1 : JRow w v1 p := h1'.1
  clear h1'
  by_cases hl0 : u.length ≤ 1048576
  rotate_left
  · skip
    have G0 := Lib.hid h0.len
    have G1 := Lib.hid h1.len
    obtain ⟨s0, c0, rfl⟩ := h0.shape
    obtain ⟨s1, c1, rfl⟩ := h1.shape
    clear h0
    clear h1
    have g0 := G0.out
    have g1 := G1.out
    go_enter Try.func9, Try.ntmps9
    go_wp2
    go_ret
    exact Tru.same
  by_cases hl1 : p.length ≤ 1048576
  rotate_left
  · skip
    have G0 := Lib.hid h0.len
    have G1 := Lib.hid h1.len
    obtain ⟨s0, c0, rfl⟩ := h0.shape
    obtain ⟨s1, c1, rfl⟩ := h1.shape
    clear h0
    clear h1
    have g0 := G0.out
    have g1 := G1.out
    go_enter Try.func9, Try.ntmps9
    go_wp2
    go_ret
    exact Tru.same
  have HL0 := Lib.hid hl0
  have A0 := Lib.hid h0
  have HL1 := Lib.hid hl1
  have A1 := Lib.hid h1
  have Bw := Lib.hid (Below.refl w.heap.size w)
  obtain ⟨s0, c0, rfl⟩ := h0.shape
  obtain ⟨s1, c1, rfl⟩ := h1.shape
  clear h0
  clear h1
  go_enter Try.func9, Try.ntmps9
  go_wp2_with fail
  refine (toJ_any _ u _ A0.out HL0.out).mono ?_
  rintro _ w1 ⟨x1, rfl, hx, hb⟩
  have A0 := Lib.hid (A0.out.below hb)
  have A1 := Lib.hid (A1.out.below hb)
  have Bw := Lib.hid (below_step Bw.out hb)
  clear hb
  have X0 := Lib.hid hx
  clear hx
  go_wp2_with fail
  refine (toJ_any _ p _ A1.out HL1.out).mono ?_
  rintro _ w2 ⟨x2, rfl, hx, hb⟩
  have A0 := Lib.hid (A0.out.below hb)
  have A1 := Lib.hid (A1.out.below hb)
  have X0 := Lib.hid (X0.out.below hb)
  have Bw := Lib.hid (below_step Bw.out hb)
  clear hb
  have X1 := Lib.hid hx
  clear hx
  go_wp2_with fail
  refine (specCostOf_any _ _ u p _ X0.out X1.out).mono ?_
  rintro _ w3 ⟨rfl, hb⟩
  have A0 := Lib.hid (A0.out.below hb)
  have A1 := Lib.hid (A1.out.below hb)
  have X0 := Lib.hid (X0.out.below hb)
  have X1 := Lib.hid (X1.out.below hb)
  have Bw := Lib.hid (below_step Bw.out hb)
  clear hb
  clear X0
  clear X1
  go_wp2_with fail
  refine (toJ_any _ u _ A0.out HL0.out).mono ?_
  rintro _ w4 ⟨x4, rfl, hx, hb⟩
  have A0 := Lib.hid (A0.out.below hb)
  have A1 := Lib.hid (A1.out.below hb)
  have Bw := Lib.hid (below_step Bw.out hb)
  clear hb
  have X0 := Lib.hid hx
  clear hx
  go_wp2_with fail
  refine (toJ_any _ p _ A1.out HL1.out).mono ?_
  rintro _ w5 ⟨x5, rfl, hx, hb⟩
  have A0 := Lib.hid (A0.out.below hb)
  have A1 := Lib.hid (A1.out.below hb)
  have X0 := Lib.hid (X0.out.below hb)
  have Bw := Lib.hid (below_step Bw.out hb)
  clear hb
  have X1 := Lib.hid hx
  clear hx
  go_wp2_with fail
  refine (implCostOf_any _ _ u p _ X0.out X1.out).mono ?_
  rintro _ w6 ⟨rfl, hb⟩
  have A0 := Lib.hid (A0.out.below hb)
  have A1 := Lib.hid (A1.out.below hb)
  have X0 := Lib.hid (X0.out.below hb)
  have X1 := Lib.hid (X1.out.below hb)
  have Bw := Lib.hid (below_step Bw.out hb)
  clear hb
  go_wp2_with fail
  refine (toJ_any _ u _ A0.out HL0.out).mono ?_
  rintro _ w7 ⟨x7, rfl, hx, hb⟩
  have A0 := Lib.hid (A0.out.below hb)
  have A1 := Lib.hid (A1.out.below hb)
  have X0 := Lib.hid (X0.out.below hb)
  have X1 := Lib.hid (X1.out.below hb)
  have Bw := Lib.hid (below_step Bw.out hb)
  clear hb
  have Y0 := Lib.hid hx
  clear hx
  go_wp2_with fail
  refine (eqJB_any _ _ u _ X0.out Y0.out).mono ?_
  rintro _ w8 ⟨rfl, hb⟩
  have A0 := Lib.hid (A0.out.below hb)
  have A1 := Lib.hid (A1.out.below hb)
  have X0 := Lib.hid (X0.out.below hb)
  have X1 := Lib.hid (X1.out.below hb)
  have Y0 := Lib.hid (Y0.out.below hb)
  have Bw := Lib.hid (below_step Bw.out hb)
  clear hb
  clear Y0
  go_wp2_with fail
  refine (toJ_any _ p _ A1.out HL1.out).mono ?_
  rintro _ w9 ⟨x9, rfl, hx, hb⟩
  have A0 := Lib.hid (A0.out.below hb)
  have A1 := Lib.hid (A1.out.below hb)
  have X0 := Lib.hid (X0.out.below hb)
  have X1 := Lib.hid (X1.out.below hb)
  have Bw := Lib.hid (below_step Bw.out hb)
  clear hb
  have Y1 := Lib.hid hx
  clear hx
  go_wp2_with fail
  refine (eqJB_any _ _ p _ X1.out Y1.out).mono ?_
  rintro _ w10 ⟨rfl, hb⟩
  have A0 := Lib.hid (A0.out.below hb)
  have A1 := Lib.hid (A1.out.below hb)
  have X0 := Lib.hid (X0.out.below hb)
  have X1 := Lib.hid (X1.out.below hb)
  have Y1 := Lib.hid (Y1.out.below hb)
  have Bw := Lib.hid (below_step Bw.out hb)
  clear hb
  clear Y1
  go_wp2
  go_ret
  exact Tru.below Bw.out

end Go.Proofs.Ytjkokhdbkmjenaa
