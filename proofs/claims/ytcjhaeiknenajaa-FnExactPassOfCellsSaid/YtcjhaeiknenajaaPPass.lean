/- How much passes between two cells: both sides, and the law. -/
import Derived.Test.YtcjhaeiknenajaaFlowW
import Derived.Test.YtcjhaeiknenajaaNbL
namespace Go.Proofs.Ytcjhaeiknenajaa
open Go.RowKit
set_option linter.unusedVariables false

theorem mem_at {zs : List Int} {k : Int} {j : Nat} (hj : j < zs.length) (h : zs.getD j 0 = k) : decide (k ∈ zs) = true := by
  rw [decide_eq_true_eq, ← h]
  simp [List.getD_eq_getElem?_getD, hj]
theorem mem_no {zs : List Int} {k : Int} (h : ∀ j, j < zs.length → ¬ zs.getD j 0 = k) : decide (k ∈ zs) = false := by
  rw [decide_eq_false_iff_not]
  intro hm
  obtain ⟨i, hi, e⟩ := List.mem_iff_getElem.1 hm
  exact h i hi (by simp [List.getD_eq_getElem?_getD, hi, e])
def IdxJ (b : Bool) (w : World) (e : Ending) (w' : World) : Prop := ∃ i : Int, e = .returned (.int .i64 i) ∧ decide (0 ≤ i) = b ∧ ∃ n, w' = w.drewN n

set_option maxHeartbeats 800000 in
theorem idxJ_any (v : Value) (zs : List Int) (k : Int) (w : World) (h : JRow w v zs) (hl : zs.length ≤ 1048576) : Calls Try.prog 103 #[v, .int .i64 k] w (IdxJ (decide (k ∈ zs)) w) := by
  have VS := Lib.hid (fun j (hj : j < zs.length) (h : zs.getD j 0 = k) => mem_at hj h)
  have VN := Lib.hid (fun h => mem_no (zs := zs) (k := k) h)
  have HC := Lib.hid (fun (hn : 1 ≤ zs.length) => h.cells hn)
  have HL := Lib.hid hl
  obtain ⟨a, cap, rfl⟩ := h.shape
  clear h hl
  generalize decide (k ∈ zs) = B at *
  generalize zs.length = n at *
  go_enter Try.func103, Try.ntmps103
  go_wp2
  go_loopw [5, 8] (fun _ i wr => ∃ j m : Nat, j ≤ n ∧ i = .int .i64 j ∧ Hid (∀ q, q < j → ¬ zs.getD q 0 = k) ∧ wr = w.drewN m) (fun _ i _ => n - (intOf i).toNat)
  case atStart => exact ⟨0, 0, Nat.zero_le _, rfl, Lib.hid (fun j hj => absurd hj (Nat.not_lt_zero _)), rfl⟩
  case round =>
    obtain ⟨j, m, hj, rfl, hall, rfl⟩ := hrel
    have hG := HL.out
    by_cases hlt : j < n
    · obtain ⟨b0, o0, c0, e, hc⟩ := HC.out (by omega)
      have ea : a = some ⟨b0, o0, none⟩ := by cases e; rfl
      have z0 := hc j hlt
      have VSj := Lib.hid (VS.out j hlt)
      clear e hc HC
      subst ea
      have hi : (0 : Int) ≤ (j : Int) := by omega
      have hi' : (j : Int) < (n : Int) := by omega
      by_cases S : zs.getD j 0 = k
      · have V := Lib.hid (VSj.out S)
        rw [S] at z0
        go_wp2
        go_ret
        exact ⟨_, rfl, by rw [V.out]; simp, _, rfl⟩
      · have V := Lib.hid S
        generalize zs.getD j 0 = y at z0 S
        have f1 : (k == y) = false := by simp; omega
        have f2 : (k != y) = true := by simp; omega
        go_wp2
        go_roundw
        case rel => exact ⟨j + 1, _, by omega, by go_num, Lib.hid (fun q hq => by rcases Nat.lt_succ_iff_lt_or_eq.1 hq with h | h; exact hall.out q h; subst h; exact V.out), rfl⟩
        case measure => simp [intOf]; omega
    · have e := Lib.hid (show j = n by omega)
      have V : Hid (B = false) := Lib.hid (VN.out (by rw [← e.out]; exact hall.out))
      go_wp2
      go_ret
      exact ⟨_, rfl, by rw [V.out]; decide, _, rfl⟩
theorem hasJ_any (v : Value) (zs : List Int) (k : Int) (w : World) (h : JRow w v zs) (hl : zs.length ≤ 1048576) : Calls Try.prog 70 #[v, .int .i64 k] w (Bol (decide (k ∈ zs)) w) := by
  go_enter Try.func70, Try.ntmps70
  go_wp2_with fail
  refine (idxJ_any v zs k w h hl).mono ?_
  rintro e w' ⟨i, rfl, hi, n, rfl⟩
  have HI := Lib.hid hi
  clear hi
  go_wp2
  go_ret
  exact ⟨by rw [← HI.out]; rfl, _, rfl⟩

/-- its width, and the first cell of its last row -/
def wX (r : PL) : Nat := r.X.toNat
def wZ (r : PL) : Nat := r.X.toNat * (r.Y.toNat - 1)
def nbs (r : PL) (k : Nat) : List Int := nbL (wX r) (wZ r) k 4
def okP (r : PL) (i k : Int) : Bool := okC r i && decide (k ∈ nbs r i.toNat)
theorem okP_no {r : PL} {i k : Int} (h : okC r i = false) : okP r i k = false := by unfold okP; rw [h]; rfl
theorem okP_far {r : PL} {i k : Int} (h : okC r k = false) : okP r i k = false := by
  unfold okP
  cases hi : okC r i
  · rfl
  · rw [Bool.true_and, decide_eq_false_iff_not]
    intro hm
    obtain ⟨v1, v2, v3⟩ := okC_nat hi
    obtain ⟨j, _, h0, e⟩ := (nbL_mem 4).1 hm
    obtain ⟨m, em, hmn⟩ := nbr_nat (Sd.std (PlN.ofV v1)) rfl v3 j h0
    have e2 : k = (m : Int) := by rw [← e]; exact em
    have : okC r k = true := by
      unfold okC
      rw [v1, Bool.true_and, e2]
      simp
      exact hmn
    rw [this] at h
    cases h

theorem nbs_dec (r : PL) (ii kk : Nat) : decide ((kk : Int) ∈ nbs r ii) = (decide (nr0 (wX r) ii = (kk : Int)) || decide (nr1 (wX r) ii = (kk : Int)) || decide (nr2 (wX r) ii = (kk : Int)) || decide (nr3 (wX r) (wZ r) ii = (kk : Int))) := by
  rw [Bool.eq_iff_iff]
  simp only [Bool.or_eq_true, decide_eq_true_eq]
  unfold nbs
  rw [nbL_mem]
  constructor
  · rintro ⟨j, hj, h0, e⟩
    match j, hj with
    | 0, _ => exact .inl (.inl (.inl e))
    | 1, _ => exact .inl (.inl (.inr e))
    | 2, _ => exact .inl (.inr e)
    | 3, _ => exact .inr e
  · rintro (((e | e) | e) | e)
    · exact ⟨0, by omega, by show 0 ≤ nr0 _ _; rw [e]; omega, e⟩
    · exact ⟨1, by omega, by show 0 ≤ nr1 _ _; rw [e]; omega, e⟩
    · exact ⟨2, by omega, by show 0 ≤ nr2 _ _; rw [e]; omega, e⟩
    · exact ⟨3, by omega, by show 0 ≤ nr3 _ _ _; rw [e]; omega, e⟩

set_option maxRecDepth 10000 in
set_option maxHeartbeats 3200000 in
theorem specPassC_ok (r : PL) (ii kk n : Nat) (b0 o0 k0 b1 o1 k1 b2 o2 k2 b3 o3 k3 : Nat) (w : World) (h : PRow w (ps b0 o0 n k0) (ps b1 o1 n k1) (ps b2 o2 n k2) (ps b3 o3 n k3) r) (hl : PlN r n) (hi : ii < n) (hk : kk < n) (o1' : okC r (ii : Int) = true) (o2' : okC r (kk : Int) = true) :
    Calls Try.prog 22 #[.agg #[.int .i64 r.X, .int .i64 r.Y, (ps b0 o0 n k0), (ps b1 o1 n k1), (ps b2 o2 n k2), (ps b3 o3 n k3)], .int .i64 (ii : Int), .int .i64 (kk : Int)] w (GivB (cS (decide ((kk : Int) ∈ nbs r ii)) (psF r ii kk)) (cB (decide ((kk : Int) ∈ nbs r ii)) (psF r ii kk)) w) := by
  have W1 := Lib.hid (h.below (below_al1 w (.cells (pvs r (ps b0 o0 n k0) (ps b1 o1 n k1) (ps b2 o2 n k2) (ps b3 o3 n k3)).toArray 28)))
  have A := Lib.hid (Cells.made w (pvs r (ps b0 o0 n k0) (ps b1 o1 n k1) (ps b2 o2 n k2) (ps b3 o3 n k3)) 28)
  have Bw := Lib.hid (below_al1 w (.cells (pvs r (ps b0 o0 n k0) (ps b1 o1 n k1) (ps b2 o2 n k2) (ps b3 o3 n k3)).toArray 28))
  have H1 := Lib.hid (specHas_any r (ii : Int) _ _ _ _ _ _ A.out W1.out)
  have H2 := Lib.hid (fun q => specHas_any r (kk : Int) _ _ _ _ _ _ (A.out.drewN (n := q)) (W1.out.below (below_drewN (Below.refl _ _) q)))
  rw [o1'] at H1
  rw [o2'] at H2
  have NEAR := Lib.hid (fun q => specNear_any _ _ _ _ ii _ _ _ _ r _ _ (A.out.drewN (n := q)) (Sd.std hl) rfl hi)
  have NB := Lib.hid (nbs_dec r ii kk)
  have hn := hl.q
  have PS := Lib.hid (fun w1 (hb : Below w.heap.size w w1) A => specPass_any r (ps b0 o0 n k0) (ps b2 o2 n k2) (ps b3 o3 n k3) b1 o1 k1 n ii kk w.heap.size w1 A hn hi hk (fun i hi => by
    have E := (h.below hb).E
    have hE := hl.E
    rcases E with ⟨⟨a9, c9, e9⟩, z9⟩ | ⟨b, off, cap, e, hm, hc⟩
    · rw [z9] at hE; simp at hE; have := hl.p; omega
    · simp at e
      obtain ⟨⟨rfl, rfl⟩, _, _⟩ := e
      exact hc i (by omega)))
  have E1 := Lib.hid (fun x w' (ho : decide ((kk : Int) ∈ nbs r ii) = true) hx hb => cGiv_yes (b := decide ((kk : Int) ∈ nbs r ii)) (V := psF r ii kk) (x := x) (w := w) (w' := w') ho hx hb)
  have E0 := Lib.hid (fun w' (ho : decide ((kk : Int) ∈ nbs r ii) = false) hb => cGiv_no (b := decide ((kk : Int) ∈ nbs r ii)) (V := psF r ii kk) (w := w) (w' := w') ho hb)
  clear h hl o1' o2'
  unfold Near4 nvs at NEAR
  change Hid (∀ q, Calls _ _ _ _ fun e w' => ∃ g, e = _ ∧ _ ∧ Cells w' g [.int .i64 (nr0 (wX r) ii), .int .i64 (nr1 (wX r) ii), .int .i64 (nr2 (wX r) ii), .int .i64 (nr3 (wX r) (wZ r) ii)] ∧ _) at NEAR
  generalize decide ((kk : Int) ∈ nbs r ii) = B at *
  generalize psF r ii kk = V at *
  generalize nr0 (wX r) ii = m0 at *
  generalize nr1 (wX r) ii = m1 at *
  generalize nr2 (wX r) ii = m2 at *
  generalize nr3 (wX r) (wZ r) ii = m3 at *
  by_cases e0 : m0 = (kk : Int)
  · skip
    have f0 : (m0 == (kk : Int)) = true := by simp; omega
    have f0b : (m0 != (kk : Int)) = false := by simp; omega
    have f0c : decide (m0 = (kk : Int)) = true := by simp; omega
    have OK : Hid (B = true) := Lib.hid (by rw [NB.out, f0c]; simp)
    clear e0 f0c
    go_enter Try.func22, Try.ntmps22
    go_wp2_with fail
    refine H1.out.mono ?_
    rintro e w' ⟨rfl, q1, rfl⟩
    go_wp2_with fail
    refine (H2.out _).mono ?_
    rintro e w' ⟨rfl, q2, rfl⟩
    go_wp2_with fail
    refine (NEAR.out _).mono ?_
    rintro e w2 ⟨g, rfl, hg, Gc, hb⟩
    have A := Lib.hid (A.out.drewN.kept hb)
    have B2 := Lib.hid (below_step (below_drewN Bw.out _) hb)
    have z0 := Gc.at 0 rfl; have z1 := Gc.at 1 rfl; have z2 := Gc.at 2 rfl; have z3 := Gc.at 3 rfl
    clear Gc hb hg
    go_wp2_with fail
    refine (PS.out _ B2.out A.out).mono ?_
    rintro e w' ⟨s, hs, rfl, q3, rfl⟩
    have HS := Lib.hid hs
    clear hs
    go_wp2_with (first | (go_at_call 67; refine (specNum_any _ _).mono ?_; rintro e w' ⟨rfl, n3, rfl⟩))
    go_ret2
    exact E1.out _ _ OK.out HS.out (by first | exact below_drewN B2.out _ | exact below_drewN (below_drewN B2.out _) _)
  · skip
    by_cases e1 : m1 = (kk : Int)
    · skip
      have f0 : (m0 == (kk : Int)) = false := by simp; omega
      have f0b : (m0 != (kk : Int)) = true := by simp; omega
      have f0c : decide (m0 = (kk : Int)) = false := by simp; omega
      have f1 : (m1 == (kk : Int)) = true := by simp; omega
      have f1b : (m1 != (kk : Int)) = false := by simp; omega
      have f1c : decide (m1 = (kk : Int)) = true := by simp; omega
      have OK : Hid (B = true) := Lib.hid (by rw [NB.out, f0c, f1c]; simp)
      clear e0 e1 f0c f1c
      go_enter Try.func22, Try.ntmps22
      go_wp2_with fail
      refine H1.out.mono ?_
      rintro e w' ⟨rfl, q1, rfl⟩
      go_wp2_with fail
      refine (H2.out _).mono ?_
      rintro e w' ⟨rfl, q2, rfl⟩
      go_wp2_with fail
      refine (NEAR.out _).mono ?_
      rintro e w2 ⟨g, rfl, hg, Gc, hb⟩
      have A := Lib.hid (A.out.drewN.kept hb)
      have B2 := Lib.hid (below_step (below_drewN Bw.out _) hb)
      have z0 := Gc.at 0 rfl; have z1 := Gc.at 1 rfl; have z2 := Gc.at 2 rfl; have z3 := Gc.at 3 rfl
      clear Gc hb hg
      go_wp2_with fail
      refine (PS.out _ B2.out A.out).mono ?_
      rintro e w' ⟨s, hs, rfl, q3, rfl⟩
      have HS := Lib.hid hs
      clear hs
      go_wp2_with (first | (go_at_call 67; refine (specNum_any _ _).mono ?_; rintro e w' ⟨rfl, n3, rfl⟩))
      go_ret2
      exact E1.out _ _ OK.out HS.out (by first | exact below_drewN B2.out _ | exact below_drewN (below_drewN B2.out _) _)
    · skip
      by_cases e2 : m2 = (kk : Int)
      · skip
        have f0 : (m0 == (kk : Int)) = false := by simp; omega
        have f0b : (m0 != (kk : Int)) = true := by simp; omega
        have f0c : decide (m0 = (kk : Int)) = false := by simp; omega
        have f1 : (m1 == (kk : Int)) = false := by simp; omega
        have f1b : (m1 != (kk : Int)) = true := by simp; omega
        have f1c : decide (m1 = (kk : Int)) = false := by simp; omega
        have f2 : (m2 == (kk : Int)) = true := by simp; omega
        have f2b : (m2 != (kk : Int)) = false := by simp; omega
        have f2c : decide (m2 = (kk : Int)) = true := by simp; omega
        have OK : Hid (B = true) := Lib.hid (by rw [NB.out, f0c, f1c, f2c]; simp)
        clear e0 e1 e2 f0c f1c f2c
        go_enter Try.func22, Try.ntmps22
        go_wp2_with fail
        refine H1.out.mono ?_
        rintro e w' ⟨rfl, q1, rfl⟩
        go_wp2_with fail
        refine (H2.out _).mono ?_
        rintro e w' ⟨rfl, q2, rfl⟩
        go_wp2_with fail
        refine (NEAR.out _).mono ?_
        rintro e w2 ⟨g, rfl, hg, Gc, hb⟩
        have A := Lib.hid (A.out.drewN.kept hb)
        have B2 := Lib.hid (below_step (below_drewN Bw.out _) hb)
        have z0 := Gc.at 0 rfl; have z1 := Gc.at 1 rfl; have z2 := Gc.at 2 rfl; have z3 := Gc.at 3 rfl
        clear Gc hb hg
        go_wp2_with fail
        refine (PS.out _ B2.out A.out).mono ?_
        rintro e w' ⟨s, hs, rfl, q3, rfl⟩
        have HS := Lib.hid hs
        clear hs
        go_wp2_with (first | (go_at_call 67; refine (specNum_any _ _).mono ?_; rintro e w' ⟨rfl, n3, rfl⟩))
        go_ret2
        exact E1.out _ _ OK.out HS.out (by first | exact below_drewN B2.out _ | exact below_drewN (below_drewN B2.out _) _)
      · skip
        by_cases e3 : m3 = (kk : Int)
        · skip
          have f0 : (m0 == (kk : Int)) = false := by simp; omega
          have f0b : (m0 != (kk : Int)) = true := by simp; omega
          have f0c : decide (m0 = (kk : Int)) = false := by simp; omega
          have f1 : (m1 == (kk : Int)) = false := by simp; omega
          have f1b : (m1 != (kk : Int)) = true := by simp; omega
          have f1c : decide (m1 = (kk : Int)) = false := by simp; omega
          have f2 : (m2 == (kk : Int)) = false := by simp; omega
          have f2b : (m2 != (kk : Int)) = true := by simp; omega
          have f2c : decide (m2 = (kk : Int)) = false := by simp; omega
          have f3 : (m3 == (kk : Int)) = true := by simp; omega
          have f3b : (m3 != (kk : Int)) = false := by simp; omega
          have f3c : decide (m3 = (kk : Int)) = true := by simp; omega
          have OK : Hid (B = true) := Lib.hid (by rw [NB.out, f0c, f1c, f2c, f3c]; simp)
          clear e0 e1 e2 e3 f0c f1c f2c f3c
          go_enter Try.func22, Try.ntmps22
          go_wp2_with fail
          refine H1.out.mono ?_
          rintro e w' ⟨rfl, q1, rfl⟩
          go_wp2_with fail
          refine (H2.out _).mono ?_
          rintro e w' ⟨rfl, q2, rfl⟩
          go_wp2_with fail
          refine (NEAR.out _).mono ?_
          rintro e w2 ⟨g, rfl, hg, Gc, hb⟩
          have A := Lib.hid (A.out.drewN.kept hb)
          have B2 := Lib.hid (below_step (below_drewN Bw.out _) hb)
          have z0 := Gc.at 0 rfl; have z1 := Gc.at 1 rfl; have z2 := Gc.at 2 rfl; have z3 := Gc.at 3 rfl
          clear Gc hb hg
          go_wp2_with fail
          refine (PS.out _ B2.out A.out).mono ?_
          rintro e w' ⟨s, hs, rfl, q3, rfl⟩
          have HS := Lib.hid hs
          clear hs
          go_wp2_with (first | (go_at_call 67; refine (specNum_any _ _).mono ?_; rintro e w' ⟨rfl, n3, rfl⟩))
          go_ret2
          exact E1.out _ _ OK.out HS.out (by first | exact below_drewN B2.out _ | exact below_drewN (below_drewN B2.out _) _)
        · skip
          have f0 : (m0 == (kk : Int)) = false := by simp; omega
          have f0b : (m0 != (kk : Int)) = true := by simp; omega
          have f0c : decide (m0 = (kk : Int)) = false := by simp; omega
          have f1 : (m1 == (kk : Int)) = false := by simp; omega
          have f1b : (m1 != (kk : Int)) = true := by simp; omega
          have f1c : decide (m1 = (kk : Int)) = false := by simp; omega
          have f2 : (m2 == (kk : Int)) = false := by simp; omega
          have f2b : (m2 != (kk : Int)) = true := by simp; omega
          have f2c : decide (m2 = (kk : Int)) = false := by simp; omega
          have f3 : (m3 == (kk : Int)) = false := by simp; omega
          have f3b : (m3 != (kk : Int)) = true := by simp; omega
          have f3c : decide (m3 = (kk : Int)) = false := by simp; omega
          have OK : Hid (B = false) := Lib.hid (by rw [NB.out, f0c, f1c, f2c, f3c]; simp)
          clear e0 e1 e2 e3 f0c f1c f2c f3c
          go_enter Try.func22, Try.ntmps22
          go_wp2_with fail
          refine H1.out.mono ?_
          rintro e w' ⟨rfl, q1, rfl⟩
          go_wp2_with fail
          refine (H2.out _).mono ?_
          rintro e w' ⟨rfl, q2, rfl⟩
          go_wp2_with fail
          refine (NEAR.out _).mono ?_
          rintro e w2 ⟨g, rfl, hg, Gc, hb⟩
          have A := Lib.hid (A.out.drewN.kept hb)
          have B2 := Lib.hid (below_step (below_drewN Bw.out _) hb)
          have z0 := Gc.at 0 rfl; have z1 := Gc.at 1 rfl; have z2 := Gc.at 2 rfl; have z3 := Gc.at 3 rfl
          clear Gc hb hg
          go_wp2
          go_ret2
          exact E0.out _ OK.out B2.out

set_option maxHeartbeats 800000 in
theorem specPassC_any (a b c d : Value) (r : PL) (i k : Int) (w : World) (h : PRow w a b c d r) : Calls Try.prog 22 #[.agg #[.int .i64 r.X, .int .i64 r.Y, a, b, c, d], .int .i64 i, .int .i64 k] w (GivB (cS (okP r i k) (psF r i.toNat k.toNat)) (cB (okP r i k) (psF r i.toNat k.toNat)) w) := by
  cases hv : okC r i
  · have A := Lib.hid (Cells.made w (pvs r a b c d) 28)
    have R := Lib.hid (h.below (below_al1 w (.cells (pvs r a b c d).toArray 28)))
    have HA0 := Lib.hid (specHas_any r i a b c d _ _ A.out R.out)
    have E0 := Lib.hid (fun w' hb => cGiv_no (V := psF r i.toNat k.toNat) (w := w) (w' := w') (okP_no (k := k) hv) hb)
    rw [hv] at HA0
    clear h
    go_enter Try.func22, Try.ntmps22
    go_wp2_with fail
    refine HA0.out.mono ?_
    rintro e w' ⟨rfl, n1, rfl⟩
    go_wp2
    go_ret2
    exact E0.out _ (below_drewN (below_al1 _ _) _)
  · cases hk : okC r k
    · have A := Lib.hid (Cells.made w (pvs r a b c d) 28)
      have R := Lib.hid (h.below (below_al1 w (.cells (pvs r a b c d).toArray 28)))
      have HA0 := Lib.hid (specHas_any r i a b c d _ _ A.out R.out)
      have HA := Lib.hid (fun q => specHas_any r k a b c d _ _ (A.out.drewN (n := q)) (R.out.below (below_drewN (Below.refl _ _) q)))
      have E0 := Lib.hid (fun w' hb => cGiv_no (V := psF r i.toNat k.toNat) (w := w) (w' := w') (okP_far (i := i) hk) hb)
      rw [hv] at HA0
      rw [hk] at HA
      clear h
      go_enter Try.func22, Try.ntmps22
      go_wp2_with fail
      refine HA0.out.mono ?_
      rintro e w' ⟨rfl, n1, rfl⟩
      go_wp2_with fail
      refine (HA.out _).mono ?_
      rintro e w' ⟨rfl, n2, rfl⟩
      go_wp2
      go_ret2
      exact E0.out _ (by first | exact below_drewN (below_al1 _ _) _ | exact below_drewN (below_drewN (below_al1 _ _) _) _)
    · obtain ⟨v1, v2, v3⟩ := okC_nat hv
      obtain ⟨_, u2, u3⟩ := okC_nat hk
      have e1 : okP r i k = decide ((k.toNat : Int) ∈ nbs r i.toNat) := by unfold okP; rw [hv, Bool.true_and, ← u2]
      rw [e1]
      obtain ⟨b0, o0, k0, b1, o1, k1, b2, o2, k2, b3, o3, k3, rfl, rfl, rfl, rfl, hL⟩ := h.lay (PlN.ofV v1)
      have := specPassC_ok r i.toNat k.toNat _ b0 o0 k0 b1 o1 k1 b2 o2 k2 b3 o3 k3 w h (PlN.ofV v1) v3 u3 (by rw [← v2]; exact hv) (by rw [← u2]; exact hk)
      rw [← v2, ← u2] at this
      rw [← u2]
      exact this

set_option maxHeartbeats 1600000 in
theorem implPassC_any (a b c d : Value) (r : PL) (i k : Int) (w : World) (h : PRow w a b c d r) : Calls Try.prog 23 #[.agg #[.int .i64 r.X, .int .i64 r.Y, a, b, c, d], .int .i64 i, .int .i64 k] w (GivB (cS (okP r i k) (psF r i.toNat k.toNat)) (cB (okP r i k) (psF r i.toNat k.toNat)) w) := by
  have R := Lib.hid (fun w1 (hb : Below w.heap.size w w1) => h.below hb)
  have IV := Lib.hid (implPl_any a b c d r _ (h.below (below_al1 w (.cells (pvs r a b c d).toArray 28))))
  cases hp : vPl r
  · have ho : okC r i = false := by unfold okC; rw [hp]; rfl
    have E0 := Lib.hid (fun w' hb => cGiv_no (V := psF r i.toNat k.toNat) (w := w) (w' := w') (okP_no (k := k) ho) hb)
    have Bw := Lib.hid (below_al1 w (.cells (pvs r a b c d).toArray 28))
    rw [hp] at IV
    clear hp h
    go_enter Try.func23, Try.ntmps23
    go_wp2_with fail
    refine IV.out.mono ?_
    rintro e w1 ⟨rfl, hb⟩
    go_wp2
    go_ret2
    exact E0.out _ (below_step Bw.out hb)
  · have NN1 := PlN.ofV hp
    rw [hp] at IV
    have A := Lib.hid (Cells.made w (pvs r a b c d) 28)
    have Bw := Lib.hid (below_al1 w (.cells (pvs r a b c d).toArray 28))
    cases hi : (decide (0 ≤ i) && decide (i < (r.W.length : Int)))
    · have ho : okC r i = false := by unfold okC; rw [hp, hi]; rfl
      have E0 := Lib.hid (fun w' hb => cGiv_no (V := psF r i.toNat k.toNat) (w := w) (w' := w') (okP_no (k := k) ho) hb)
      have NN := Lib.hid NN1
      clear hp h NN1
      go_enter Try.func23, Try.ntmps23
      go_wp2_with fail
      refine IV.out.mono ?_
      rintro e w1 ⟨rfl, hb⟩
      have Bw := Lib.hid (below_step Bw.out hb); have A := Lib.hid (A.out.kept hb); have c0 := A.out.at 0 rfl; have c1 := A.out.at 1 rfl; have c2 := A.out.at 2 rfl; have c3 := A.out.at 3 rfl; have c4 := A.out.at 4 rfl; have c5 := A.out.at 5 rfl; clear hb
      go_wp2_with fail
      refine (isCell_any r _ _ _ _ _ i _ NN.out).mono ?_
      rw [hi]
      rintro e w2 ⟨rfl, hb⟩
      go_wp2
      go_ret2
      exact E0.out _ (below_step Bw.out hb)
    · have ho : okC r i = true := by unfold okC; rw [hp, hi]; rfl
      obtain ⟨_, v2, v3⟩ := okC_nat ho
      have OP : Hid (okP r i k = decide (k ∈ nbs r i.toNat)) := Lib.hid (by unfold okP; rw [ho]; rfl)
      have E0 := Lib.hid (fun w' (ho : okP r i k = false) hb => cGiv_no (V := psF r i.toNat k.toNat) (w := w) (w' := w') ho hb)
      have E1 := Lib.hid (fun x w' (ho : okP r i k = true) hx hb => cGiv_yes (V := psF r i.toNat k.toNat) (x := x) (w := w) (w' := w') ho hx hb)
      have NL := Lib.hid (fun w1 => implNb_any _ _ _ _ i.toNat a b c d r w1 (Sd.std NN1) rfl v3)
      rw [← v2] at NL
      change Hid (∀ w1, Calls _ _ _ _ (NewJ (nbs r i.toNat) w1)) at NL
      have LEN : Hid ((nbs r i.toNat).length ≤ 1048576) := Lib.hid (Nat.le_trans (nbL_len _ _ _ 4) (by decide))
      have KN : Hid (okP r i k = true → k = (k.toNat : Int) ∧ k.toNat < r.W.length) := Lib.hid (fun ho => by
        have hk : okC r k = true := by
          cases e : okC r k
          · rw [okP_far e] at ho; cases ho
          · rfl
        exact ⟨(okC_nat hk).2.1, (okC_nat hk).2.2⟩)
      have PI := Lib.hid (fun (hk : k.toNat < r.W.length) w1 (hb : Below w.heap.size w w1) => by
        obtain ⟨b0, o0, k0, b1, o1, k1, b2, o2, k2, b3, o3, k3, e1, e2, e3, e4, hL⟩ := (h.below hb).lay NN1
        have := implPass_any r a c d b1 o1 k1 _ i.toNat k.toNat w1 NN1.q v3 hk hL.E
        rw [show ps b1 o1 r.W.length k1 = b from e2.symm] at this
        exact this)
      have vi : (i.toNat : Int) = i := v2.symm
      rw [vi] at PI
      have NN := Lib.hid NN1
      clear hp h NN1 ho v2 v3
      generalize nbs r i.toNat = L at *
      generalize psF r i.toNat k.toNat = V at *
      go_enter Try.func23, Try.ntmps23
      go_wp2_with fail
      refine IV.out.mono ?_
      rintro e w1 ⟨rfl, hb⟩
      have Bw := Lib.hid (below_step Bw.out hb); have A := Lib.hid (A.out.kept hb); have c0 := A.out.at 0 rfl; have c1 := A.out.at 1 rfl; have c2 := A.out.at 2 rfl; have c3 := A.out.at 3 rfl; have c4 := A.out.at 4 rfl; have c5 := A.out.at 5 rfl; clear hb
      go_wp2_with fail
      refine (isCell_any r _ _ _ _ _ i _ NN.out).mono ?_
      rw [hi]
      rintro e w2 ⟨rfl, hb⟩
      clear c0 c1 c2 c3 c4 c5
      have Bw := Lib.hid (below_step Bw.out hb); have A := Lib.hid (A.out.kept hb); have c0 := A.out.at 0 rfl; have c1 := A.out.at 1 rfl; have c2 := A.out.at 2 rfl; have c3 := A.out.at 3 rfl; have c4 := A.out.at 4 rfl; have c5 := A.out.at 5 rfl; clear hb
      go_wp2_with fail
      refine (NL.out _).mono ?_
      rintro e w3 ⟨v, rfl, hO, hb⟩
      have HO := Lib.hid (hO.row LEN.out)
      clear c0 c1 c2 c3 c4 c5
      have Bw := Lib.hid (below_step Bw.out hb); have A := Lib.hid (A.out.kept hb); have c0 := A.out.at 0 rfl; have c1 := A.out.at 1 rfl; have c2 := A.out.at 2 rfl; have c3 := A.out.at 3 rfl; have c4 := A.out.at 4 rfl; have c5 := A.out.at 5 rfl; clear hb hO
      cases hm : decide (k ∈ L)
      · go_wp2_with fail
        refine (hasJ_any v L k _ HO.out LEN.out).mono ?_
        rw [hm]
        rintro e w' ⟨rfl, q1, rfl⟩
        go_wp2
        go_ret2
        exact E0.out _ (by rw [OP.out, hm]) (by first | exact below_drewN Bw.out _ | exact Bw.out)
      · have OK := Lib.hid (OP.out.trans hm)
        obtain ⟨u2, u3⟩ := KN.out OK.out
        have PJ := Lib.hid (PI.out u3)
        rw [← u2] at PJ
        clear u2 u3
        go_wp2_with fail
        refine (hasJ_any v L k _ HO.out LEN.out).mono ?_
        rw [hm]
        rintro e w' ⟨rfl, q1, rfl⟩
        go_wp2_with fail
        refine (PJ.out _ (below_drewN Bw.out _)).mono ?_
        rintro e w5 ⟨s, hs, rfl, hb⟩
        have HS := Lib.hid hs
        have B5 := Lib.hid (below_step (below_drewN Bw.out q1) hb)
        clear hs hb
        go_wp2_with (first | (go_at_call 72; refine (implNum_any _ _).mono ?_; rintro e w' ⟨rfl, n3, rfl⟩))
        go_ret2
        exact E1.out _ _ OK.out HS.out (by first | exact below_drewN B5.out _ | exact B5.out)
end Go.Proofs.Ytcjhaeiknenajaa
