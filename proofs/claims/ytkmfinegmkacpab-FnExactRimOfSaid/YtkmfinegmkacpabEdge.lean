/- The cells at edges: both sides. -/
import Derived.Test.YtkmfinegmkacpabPlLay
import Derived.Test.YtkmfinegmkacpabNbL
import Derived.Test.YtkmfinegmkacpabLawJ
namespace Go.Proofs.Ytkmfinegmkacpab
open Go.RowKit
set_option linter.unusedVariables false

theorem Sd.std2 {r : PL} {n : Nat} (h : PlN r n) : Sd r r.X.toNat r.Y.toNat n := by
  refine ⟨by have := h.X1; omega, by have := h.Y1; omega, by have := h.X1; omega, by have := h.X2; omega, by have := h.Y1; omega, by have := h.Y2; omega, ?_, h.q⟩
  have h1 := h.xy
  have h2 := h.X1
  have h3 := h.Y1
  have e : ((r.X.toNat * r.Y.toNat : Nat) : Int) = r.X * r.Y := by rw [Int.natCast_mul, Int.toNat_of_nonneg (by omega), Int.toNat_of_nonneg (by omega)]
  omega
/-- is a cell at an edge -/
def eg (r : PL) (k : Nat) : Bool := decide ((nbL r.X.toNat (r.X.toNat * (r.Y.toNat - 1)) k 4).length < 4)
theorem eg_dec (r : PL) (k : Nat) : eg r k = (decide (nr0 r.X.toNat k < 0) || decide (nr1 r.X.toNat k < 0) || decide (nr2 r.X.toNat k < 0) || decide (nr3 r.X.toNat (r.X.toNat * (r.Y.toNat - 1)) k < 0)) := by
  have d : ∀ v : Int, decide (v < 0) = !decide (0 ≤ v) := fun v => by
    by_cases h : 0 ≤ v
    · rw [decide_eq_true h, decide_eq_false (by omega)]; rfl
    · rw [decide_eq_false h, decide_eq_true (by omega)]; rfl
  rw [d, d, d, d]
  unfold eg
  show decide ((bif decide (0 ≤ nr3 r.X.toNat (r.X.toNat * (r.Y.toNat - 1)) k) then (bif decide (0 ≤ nr2 r.X.toNat k) then (bif decide (0 ≤ nr1 r.X.toNat k) then (bif decide (0 ≤ nr0 r.X.toNat k) then ([] : List Int) ++ [nr0 r.X.toNat k] else []) ++ [nr1 r.X.toNat k] else (bif decide (0 ≤ nr0 r.X.toNat k) then ([] : List Int) ++ [nr0 r.X.toNat k] else [])) ++ [nr2 r.X.toNat k] else (bif decide (0 ≤ nr1 r.X.toNat k) then (bif decide (0 ≤ nr0 r.X.toNat k) then ([] : List Int) ++ [nr0 r.X.toNat k] else []) ++ [nr1 r.X.toNat k] else (bif decide (0 ≤ nr0 r.X.toNat k) then ([] : List Int) ++ [nr0 r.X.toNat k] else []))) ++ [nr3 r.X.toNat (r.X.toNat * (r.Y.toNat - 1)) k] else (bif decide (0 ≤ nr2 r.X.toNat k) then (bif decide (0 ≤ nr1 r.X.toNat k) then (bif decide (0 ≤ nr0 r.X.toNat k) then ([] : List Int) ++ [nr0 r.X.toNat k] else []) ++ [nr1 r.X.toNat k] else (bif decide (0 ≤ nr0 r.X.toNat k) then ([] : List Int) ++ [nr0 r.X.toNat k] else [])) ++ [nr2 r.X.toNat k] else (bif decide (0 ≤ nr1 r.X.toNat k) then (bif decide (0 ≤ nr0 r.X.toNat k) then ([] : List Int) ++ [nr0 r.X.toNat k] else []) ++ [nr1 r.X.toNat k] else (bif decide (0 ≤ nr0 r.X.toNat k) then ([] : List Int) ++ [nr0 r.X.toNat k] else [])))).length < 4) = _
  cases decide (0 ≤ nr0 r.X.toNat k) <;> cases decide (0 ≤ nr1 r.X.toNat k) <;> cases decide (0 ≤ nr2 r.X.toNat k) <;> cases decide (0 ≤ nr3 r.X.toNat (r.X.toNat * (r.Y.toNat - 1)) k) <;> simp
/-- those of the first cells that are as told -/
def edTo (c : Nat → Bool) : Nat → List Int
  | 0 => []
  | k + 1 => bif c k then edTo c k ++ [(k : Int)] else edTo c k
theorem edTo_len (c : Nat → Bool) : ∀ k, (edTo c k).length ≤ k
  | 0 => Nat.le_refl _
  | k + 1 => by
    have ih := edTo_len c k
    show (bif c k then edTo c k ++ [(k : Int)] else edTo c k).length ≤ k + 1
    cases c k
    · rw [cond_false]; omega
    · rw [cond_true, List.length_append]; simp; omega
theorem edTo_yes {c : Nat → Bool} {k : Nat} (h : c k = true) : edTo c (k + 1) = edTo c k ++ [(k : Int)] := by
  show (bif c k then edTo c k ++ [(k : Int)] else edTo c k) = _
  rw [h]; rfl
theorem edTo_no {c : Nat → Bool} {k : Nat} (h : c k = false) : edTo c (k + 1) = edTo c k := by
  show (bif c k then edTo c k ++ [(k : Int)] else edTo c k) = _
  rw [h]; rfl
def egS (r : PL) : List Int := bif vPl r then edTo (eg r) r.W.length else []
theorem lenEdgeCells (r : PL) : (egS r).length ≤ 200 := by
  unfold egS
  cases h : vPl r
  · simp
  · have h9 := (PlN.ofV h).q
    have := edTo_len (eg r) r.W.length
    rw [cond_true]; omega

set_option maxRecDepth 10000 in
set_option maxHeartbeats 4000000 in
theorem specEdgeCellsL_any (a b c d : Value) (r : PL) (w : World) (h : PRow w a b c d r) : Calls Try.prog 23 #[.agg #[.int .i64 r.X, .int .i64 r.Y, a, b, c, d]] w (LstJB (egS r) (vPl r) w) := by
  have IV := Lib.hid (specPl_any a b c d r w.heap.size _ (Cells.made w (pvs r a b c d) 29) (h.below (below_al1 w (.cells (pvs r a b c d).toArray 29))))
  cases hv : vPl r
  · have E : egS r = [] := by unfold egS; rw [hv]; rfl
    rw [E]
    rw [hv] at IV
    clear h
    go_enter Try.func23, Try.ntmps23
    go_wp2_with fail
    refine IV.out.mono ?_
    rintro e w' ⟨rfl, n1, rfl⟩
    go_wp2
    go_ret2
    exact .no (below_drewN (below_al1 _ _) _)
  · have E : egS r = edTo (eg r) r.W.length := by unfold egS; rw [hv]; rfl
    rw [E]
    rw [hv] at IV
    have NN0 := PlN.ofV hv
    obtain ⟨b0, o0, k0, b1, o1, k1, b2, o2, k2, b3, o3, k3, rfl, rfl, rfl, rfl, hL⟩ := h.lay NN0
    generalize hgn : r.W.length = n at *
    clear hgn
    have NN := Lib.hid NN0
    have LY := Lib.hid hL
    have N9 := Lib.hid NN0.q
    clear NN0 hL
    have NEAR := Lib.hid (fun k (hk : k < n) w1 A1 => specNear_any _ _ _ _ k (ps b0 o0 n k0) (ps b1 o1 n k1) (ps b2 o2 n k2) (ps b3 o3 n k3) r w.heap.size w1 A1 (Sd.std2 NN.out) rfl hk)
    have ED := Lib.hid (eg_dec r)
    have LN := Lib.hid (edTo_len (eg r))
    have SY := Lib.hid (fun k h => edTo_yes (c := eg r) (k := k) h)
    have SN := Lib.hid (fun k h => edTo_no (c := eg r) (k := k) h)
    have L0 : Hid (edTo (eg r) 0 = []) := Lib.hid rfl
    clear hv h E
    unfold Near4 nvs at NEAR
    generalize edTo (eg r) = L at *
    have A := Lib.hid (Cells.made w (pvs r (ps b0 o0 n k0) (ps b1 o1 n k1) (ps b2 o2 n k2) (ps b3 o3 n k3)) 29)
    have Bw := Lib.hid (below_al1 w (.cells (pvs r (ps b0 o0 n k0) (ps b1 o1 n k1) (ps b2 o2 n k2) (ps b3 o3 n k3)).toArray 29))
    go_enter Try.func23, Try.ntmps23
    go_wp2_with fail
    refine IV.out.mono ?_
    rintro e w' ⟨rfl, q1, rfl⟩
    have c0 := A.out.at 0 rfl; have c1 := A.out.at 1 rfl; have c2 := A.out.at 2 rfl; have c3 := A.out.at 3 rfl; have c4 := A.out.at 4 rfl; have c5 := A.out.at 5 rfl
    go_wp2_with fail
    go_loopw [4, 5] (fun v i wr => ∃ k : Nat, k ≤ n ∧ i = .int .i64 (k : Int) ∧ Hid (OwnJ wr (w.heap.size + 1) v (L k)) ∧ Hid (Below (w.heap.size + 1) (w.alloc (.cells (pvs r (ps b0 o0 n k0) (ps b1 o1 n k1) (ps b2 o2 n k2) (ps b3 o3 n k3)).toArray 29)) wr)) (fun _ i _ => n - (intOf i).toNat)
    case atStart => exact ⟨0, Nat.zero_le _, rfl, Lib.hid (by rw [L0.out]; have := OwnJ.empty ((w.alloc (.cells (pvs r (ps b0 o0 n k0) (ps b1 o1 n k1) (ps b2 o2 n k2) (ps b3 o3 n k3)).toArray 29)).drewN q1) (w.heap.size + 1) (by simp); simpa using this), Lib.hid ((below_drewN (Below.refl _ _) _).alloc (by simp) _)⟩
    case round =>
      obtain ⟨k, hk, rfl, hO, hB⟩ := hrel
      have hG := N9.out
      have hxy := NN.out.xy
      have hB1 : Hid (Below (w.alloc (.cells (pvs r (ps b0 o0 n k0) (ps b1 o1 n k1) (ps b2 o2 n k2) (ps b3 o3 n k3)).toArray 29)).heap.size (w.alloc (.cells (pvs r (ps b0 o0 n k0) (ps b1 o1 n k1) (ps b2 o2 n k2) (ps b3 o3 n k3)).toArray 29)) wr) := Lib.hid (by simpa using hB.out)
      have A1 := Lib.hid (A.out.kept hB1.out)
      have hbs : Hid (w.heap.size + 1 ≤ wr.heap.size) := Lib.hid (by have := hB1.out.size; simpa using this)
      clear c0 c1 c2 c3 c4 c5
      have c0 := A1.out.at 0 rfl; have c1 := A1.out.at 1 rfl; have c2 := A1.out.at 2 rfl; have c3 := A1.out.at 3 rfl; have c4 := A1.out.at 4 rfl; have c5 := A1.out.at 5 rfl
      by_cases hlt : k < n
      · have NR := Lib.hid (NEAR.out k hlt wr A1.out)
        have EDk := Lib.hid (ED.out k)
        have SYk := Lib.hid (SY.out k)
        have SNk := Lib.hid (SN.out k)
        have QL : Hid ((L k).length ≤ 1048576) := Lib.hid (by have := LN.out k; omega)
        generalize nr0 r.X.toNat k = m0 at *
        generalize nr1 r.X.toNat k = m1 at *
        generalize nr2 r.X.toNat k = m2 at *
        generalize nr3 r.X.toNat (r.X.toNat * (r.Y.toNat - 1)) k = m3 at *
        generalize eg r k = ek at *
        generalize hzs : L k = zs at *
        have hi : (0 : Int) ≤ (k : Int) := by omega
        have hi' : (k : Int) < (n : Int) := by omega
        go_wp2_with fail
        refine NR.out.mono ?_
        rintro e w2 ⟨g, rfl, hg, Gc, hb⟩
        have O2 := Lib.hid (hO.out.kept hb)
        have B2 := Lib.hid (hB.out.trans (hb.mono hbs.out))
        have hs2 : Hid (w.heap.size + 1 ≤ w2.heap.size) := Lib.hid (Nat.le_trans hbs.out hb.size)
        have z0 := Gc.at 0 rfl
        have z1 := Gc.at 1 rfl
        have z2 := Gc.at 2 rfl
        have z3 := Gc.at 3 rfl
        clear Gc hb hg NR NEAR
        by_cases e0 : m0 < 0
        · skip
          have f0 : decide (m0 < (0 : Int)) = true := by simp; omega
          have V : Hid (ek = true) := Lib.hid (by rw [EDk.out, f0]; simp)
          clear e0
          have E := Lib.hid (SYk.out V.out)
          go_wp2_with (at_builtin; refine wpList_appJ rfl _ _ rfl (w.heap.size + 1) _ zs rfl (O2.out.al _) _ _ (k : Int) rfl ((World.cell?_alloc_at _ _ _ _ (by simp)).trans rfl) QL.out (by have := hs2.out; simp; omega) ?_; intro v' w3 hown' hb; have O3 := Lib.hid hown'; have B3 := Lib.hid ((B2.out.alloc (by have := hs2.out; omega) _).trans hb); clear hown' hb)
          go_roundw
          case rel => exact ⟨k + 1, by omega, by go_num, Lib.hid (by rw [E.out]; exact O3.out), Lib.hid B3.out⟩
          case measure => simp [intOf]; omega
        · skip
          by_cases e1 : m1 < 0
          · skip
            have f0 : decide (m0 < (0 : Int)) = false := by simp; omega
            have f1 : decide (m1 < (0 : Int)) = true := by simp; omega
            have V : Hid (ek = true) := Lib.hid (by rw [EDk.out, f0, f1]; simp)
            clear e0 e1
            have E := Lib.hid (SYk.out V.out)
            go_wp2_with (at_builtin; refine wpList_appJ rfl _ _ rfl (w.heap.size + 1) _ zs rfl (O2.out.al _) _ _ (k : Int) rfl ((World.cell?_alloc_at _ _ _ _ (by simp)).trans rfl) QL.out (by have := hs2.out; simp; omega) ?_; intro v' w3 hown' hb; have O3 := Lib.hid hown'; have B3 := Lib.hid ((B2.out.alloc (by have := hs2.out; omega) _).trans hb); clear hown' hb)
            go_roundw
            case rel => exact ⟨k + 1, by omega, by go_num, Lib.hid (by rw [E.out]; exact O3.out), Lib.hid B3.out⟩
            case measure => simp [intOf]; omega
          · skip
            by_cases e2 : m2 < 0
            · skip
              have f0 : decide (m0 < (0 : Int)) = false := by simp; omega
              have f1 : decide (m1 < (0 : Int)) = false := by simp; omega
              have f2 : decide (m2 < (0 : Int)) = true := by simp; omega
              have V : Hid (ek = true) := Lib.hid (by rw [EDk.out, f0, f1, f2]; simp)
              clear e0 e1 e2
              have E := Lib.hid (SYk.out V.out)
              go_wp2_with (at_builtin; refine wpList_appJ rfl _ _ rfl (w.heap.size + 1) _ zs rfl (O2.out.al _) _ _ (k : Int) rfl ((World.cell?_alloc_at _ _ _ _ (by simp)).trans rfl) QL.out (by have := hs2.out; simp; omega) ?_; intro v' w3 hown' hb; have O3 := Lib.hid hown'; have B3 := Lib.hid ((B2.out.alloc (by have := hs2.out; omega) _).trans hb); clear hown' hb)
              go_roundw
              case rel => exact ⟨k + 1, by omega, by go_num, Lib.hid (by rw [E.out]; exact O3.out), Lib.hid B3.out⟩
              case measure => simp [intOf]; omega
            · skip
              by_cases e3 : m3 < 0
              · skip
                have f0 : decide (m0 < (0 : Int)) = false := by simp; omega
                have f1 : decide (m1 < (0 : Int)) = false := by simp; omega
                have f2 : decide (m2 < (0 : Int)) = false := by simp; omega
                have f3 : decide (m3 < (0 : Int)) = true := by simp; omega
                have V : Hid (ek = true) := Lib.hid (by rw [EDk.out, f0, f1, f2, f3]; simp)
                clear e0 e1 e2 e3
                have E := Lib.hid (SYk.out V.out)
                go_wp2_with (at_builtin; refine wpList_appJ rfl _ _ rfl (w.heap.size + 1) _ zs rfl (O2.out.al _) _ _ (k : Int) rfl ((World.cell?_alloc_at _ _ _ _ (by simp)).trans rfl) QL.out (by have := hs2.out; simp; omega) ?_; intro v' w3 hown' hb; have O3 := Lib.hid hown'; have B3 := Lib.hid ((B2.out.alloc (by have := hs2.out; omega) _).trans hb); clear hown' hb)
                go_roundw
                case rel => exact ⟨k + 1, by omega, by go_num, Lib.hid (by rw [E.out]; exact O3.out), Lib.hid B3.out⟩
                case measure => simp [intOf]; omega
              · skip
                have f0 : decide (m0 < (0 : Int)) = false := by simp; omega
                have f1 : decide (m1 < (0 : Int)) = false := by simp; omega
                have f2 : decide (m2 < (0 : Int)) = false := by simp; omega
                have f3 : decide (m3 < (0 : Int)) = false := by simp; omega
                have V : Hid (ek = false) := Lib.hid (by rw [EDk.out, f0, f1, f2, f3]; simp)
                clear e0 e1 e2 e3
                have E := Lib.hid (SNk.out V.out)
                go_wp2
                go_roundw
                case rel => exact ⟨k + 1, by omega, by go_num, Lib.hid (by rw [E.out]; exact O2.out), Lib.hid B2.out⟩
                case measure => simp [intOf]; omega
      · have e := Lib.hid (show k = n by omega)
        go_wp2
        go_ret2
        refine ⟨_, rfl, ?_, below_step Bw.out hB1.out⟩
        rw [← e.out]
        simpa using (hO.out.row (by have := LN.out k; omega))

theorem egTold_any (r : PL) (a b c d : Value) (n q : Nat) (w : World) (A : Cells w q (pvs r a b c d)) (hl : PlN r n) (k : Nat) (hk : k < n) :
    Calls Try.prog 63 #[.int .i64 (k : Int), .pointer (some ⟨q, 0, none⟩)] w (BolB (eg r k) w) := by
  have c0 := A.at 0 rfl
  have c1 := A.at 1 rfl
  have c2 := A.at 2 rfl
  have c3 := A.at 3 rfl
  have c4 := A.at 4 rfl
  have c5 := A.at 5 rfl
  have NL := Lib.hid (implNb_any _ _ _ _ k a b c d r w (Sd.std2 hl) rfl hk)
  have EG : Hid (eg r k = decide ((nbL r.X.toNat (r.X.toNat * (r.Y.toNat - 1)) k 4).length < 4)) := Lib.hid rfl
  have LL := Lib.hid (nbL_len r.X.toNat (r.X.toNat * (r.Y.toNat - 1)) k 4)
  generalize nbL r.X.toNat (r.X.toNat * (r.Y.toNat - 1)) k 4 = L at *
  generalize eg r k = ek at *
  go_enter Try.func63, Try.ntmps63
  go_wp2_with fail
  refine NL.out.mono ?_
  rintro e w2 ⟨v, rfl, hO, hb⟩
  obtain ⟨va, vc, rfl⟩ := (hO.row (by have := LL.out; omega)).shape
  have B2 := Lib.hid hb
  clear hO hb
  generalize L.length = ln at *
  go_wp2
  go_ret
  exact ⟨ret_b (by rw [EG.out]; simp; omega), B2.out⟩

set_option maxRecDepth 10000 in
set_option maxHeartbeats 1600000 in
theorem edThat_any (r : PL) (n q : Nat) (b0 o0 k0 b1 o1 k1 b2 o2 k2 b3 o3 k3 : Nat) (w : World) (hl : PlN r n) (Q : Cells w q (pvs r (ps b0 o0 n k0) (ps b1 o1 n k1) (ps b2 o2 n k2) (ps b3 o3 n k3))) :
    Calls Try.prog 62 #[.agg #[.int .i64 r.X, .int .i64 r.Y, (ps b0 o0 n k0), (ps b1 o1 n k1), (ps b2 o2 n k2), (ps b3 o3 n k3)], .func (.func 63) #[] #[.pointer (some ⟨q, 0, none⟩)]] w (NewJ (edTo (eg r) n) w) := by
  have TD := Lib.hid (fun k (hk : k < n) w1 (hb : Below w.heap.size w w1) => egTold_any r (ps b0 o0 n k0) (ps b1 o1 n k1) (ps b2 o2 n k2) (ps b3 o3 n k3) n q w1 (Q.kept hb) hl k hk)
  have LN := Lib.hid (edTo_len (eg r))
  have SY := Lib.hid (fun k h => edTo_yes (c := eg r) (k := k) h)
  have SN := Lib.hid (fun k h => edTo_no (c := eg r) (k := k) h)
  have L0 : Hid (edTo (eg r) 0 = []) := Lib.hid rfl
  have HXY := Lib.hid hl.xy
  have N9 := Lib.hid hl.q
  clear Q hl
  generalize edTo (eg r) = L at *
  have A := Lib.hid (Cells.made w (pvs r (ps b0 o0 n k0) (ps b1 o1 n k1) (ps b2 o2 n k2) (ps b3 o3 n k3)) 29)
  have Bw := Lib.hid (below_al1 w (.cells (pvs r (ps b0 o0 n k0) (ps b1 o1 n k1) (ps b2 o2 n k2) (ps b3 o3 n k3)).toArray 29))
  go_enter Try.func62, Try.ntmps62
  go_wp2_with fail
  refine (countOf_any _ _ n _ _ _ _ _ HXY.out N9.out).mono ?_
  rintro e w1 ⟨rfl, hb⟩
  have Bw := Lib.hid (below_step Bw.out hb)
  have A := Lib.hid (A.out.kept hb)
  have c0 := A.out.at 0 rfl; have c1 := A.out.at 1 rfl; have c2 := A.out.at 2 rfl; have c3 := A.out.at 3 rfl; have c4 := A.out.at 4 rfl; have c5 := A.out.at 5 rfl
  clear hb
  have B9 := Lib.hid Bw.out
  have hw1 : Hid (w.heap.size ≤ w1.heap.size) := Lib.hid B9.out.size
  go_wp2
  go_loopw [5, 9] (fun v i wr => ∃ k : Nat, k ≤ n ∧ i = .int .i64 (k : Int) ∧ Hid (OwnJ wr w1.heap.size v (L k)) ∧ Hid (Below w1.heap.size w1 wr)) (fun _ i _ => n - (intOf i).toNat)
  case atStart => exact ⟨0, Nat.zero_le _, rfl, Lib.hid (by rw [L0.out]; exact ⟨by first | rfl | simp, .inl ⟨rfl, rfl⟩⟩), Lib.hid (Below.refl _ _)⟩
  case round =>
    obtain ⟨k, hk, rfl, hO, hB⟩ := hrel
    have hG := N9.out
    have hbs : Hid (w1.heap.size ≤ wr.heap.size) := Lib.hid hB.out.size
    by_cases hlt : k < n
    · have TDk := Lib.hid (TD.out k hlt)
      have SYk := Lib.hid (SY.out k)
      have SNk := Lib.hid (SN.out k)
      have QL : Hid ((L k).length ≤ 1048576) := Lib.hid (by have := LN.out k; omega)
      generalize hzs : L k = zs at *
      have hi : (0 : Int) ≤ (k : Int) := by omega
      have hi' : (k : Int) < (n : Int) := by omega
      cases hek : eg r k
      · have E := Lib.hid (SNk.out hek)
        rw [hek] at TDk
        go_wp2_with fail
        refine (TDk.out _ (below_step B9.out hB.out)).mono ?_
        rintro e w2 ⟨rfl, hb⟩
        have O2 := Lib.hid (hO.out.kept hb)
        have B2 := Lib.hid (hB.out.trans (hb.mono hbs.out))
        clear hb
        go_wp2
        go_roundw
        case rel => exact ⟨k + 1, by omega, by go_num, Lib.hid (by rw [E.out]; exact O2.out), Lib.hid B2.out⟩
        case measure => simp [intOf]; omega
      · have E := Lib.hid (SYk.out hek)
        rw [hek] at TDk
        go_wp2_with fail
        refine (TDk.out _ (below_step B9.out hB.out)).mono ?_
        rintro e w2 ⟨rfl, hb⟩
        have O2 := Lib.hid (hO.out.kept hb)
        have B2 := Lib.hid (hB.out.trans (hb.mono hbs.out))
        have hs2 : Hid (w1.heap.size ≤ w2.heap.size) := Lib.hid (Nat.le_trans hbs.out hb.size)
        clear hb
        go_wp2_with (at_builtin; refine wpList_appJ rfl _ _ rfl w1.heap.size _ zs rfl (O2.out.al _) _ _ (k : Int) rfl ((World.cell?_alloc_at _ _ _ _ (by simp)).trans rfl) QL.out (by have := hs2.out; simp; omega) ?_; intro v' w3 hown' hb; have O3 := Lib.hid hown'; have B3 := Lib.hid ((B2.out.alloc (by have := hs2.out; omega) _).trans hb); clear hown' hb)
        go_roundw
        case rel => exact ⟨k + 1, by omega, by go_num, Lib.hid (by rw [E.out]; exact O3.out), Lib.hid B3.out⟩
        case measure => simp [intOf]; omega
    · have e := Lib.hid (show k = n by omega)
      go_wp2
      go_ret
      refine ⟨_, rfl, ?_, below_step B9.out hB.out⟩
      have O4 := hO.out.down hw1.out
      rw [e.out] at O4
      simpa using O4

theorem implEdgeCellsL_any (a b c d : Value) (r : PL) (w : World) (h : PRow w a b c d r) : Calls Try.prog 24 #[.agg #[.int .i64 r.X, .int .i64 r.Y, a, b, c, d]] w (LstJO (egS r) (vPl r) w) := by
  have IV := Lib.hid (implPl_any a b c d r _ (h.below (below_al1 w (.cells (pvs r a b c d).toArray 29))))
  have A := Lib.hid (Cells.made w (pvs r a b c d) 29)
  have Bw := Lib.hid (below_al1 w (.cells (pvs r a b c d).toArray 29))
  cases hv : vPl r
  · have E : egS r = [] := by unfold egS; rw [hv]; rfl
    rw [E]
    rw [hv] at IV
    clear h
    go_enter Try.func24, Try.ntmps24
    go_wp2_with fail
    refine IV.out.mono ?_
    rintro e w1 ⟨rfl, hb⟩
    go_wp2
    go_ret2
    exact .no (below_step Bw.out hb)
  · have E : egS r = edTo (eg r) r.W.length := by unfold egS; rw [hv]; rfl
    rw [E]
    rw [hv] at IV
    have NN1 := PlN.ofV hv
    obtain ⟨b0, o0, k0, b1, o1, k1, b2, o2, k2, b3, o3, k3, rfl, rfl, rfl, rfl, hL⟩ := h.lay NN1
    have NN := Lib.hid NN1
    have ET := Lib.hid (fun w1 (Q : Cells w1 w.heap.size (pvs r (ps b0 o0 r.W.length k0) (ps b1 o1 r.W.length k1) (ps b2 o2 r.W.length k2) (ps b3 o3 r.W.length k3))) => edThat_any r r.W.length w.heap.size b0 o0 k0 b1 o1 k1 b2 o2 k2 b3 o3 k3 w1 NN1 Q)
    clear hv h hL NN1 E
    generalize edTo (eg r) r.W.length = L at *
    generalize r.W.length = n at *
    go_enter Try.func24, Try.ntmps24
    go_wp2_with fail
    refine IV.out.mono ?_
    rintro e w1 ⟨rfl, hb⟩
    have Bw := Lib.hid (below_step Bw.out hb); have A := Lib.hid (A.out.kept hb); have c0 := A.out.at 0 rfl; have c1 := A.out.at 1 rfl; have c2 := A.out.at 2 rfl; have c3 := A.out.at 3 rfl; have c4 := A.out.at 4 rfl; have c5 := A.out.at 5 rfl; clear hb
    go_wp2_with fail
    refine (ET.out _ A.out).mono ?_
    rintro e w2 ⟨v, rfl, hO, hb⟩
    have O2 := Lib.hid (hO.down Bw.out.size).orow
    have B2 := Lib.hid (below_step Bw.out hb)
    clear hO hb
    go_wp2
    go_ret2
    exact ⟨_, rfl, O2.out, B2.out⟩
end Go.Proofs.Ytkmfinegmkacpab
