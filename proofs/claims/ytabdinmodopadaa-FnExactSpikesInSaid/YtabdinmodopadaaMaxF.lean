/- The greatest of floats: the builtin max, as the walk runs it; and what grows by it. -/
import Derived.Test.YtabdinmodopadaaZero
import Derived.Test.YtabdinmodopadaaNeg
import Derived.Test.YtabdinmodopadaaKp
namespace Go.Proofs.Ytabdinmodopadaa
open Go.RowKit
set_option linter.unusedVariables false

/-- the greater one of two -/
def mx2 (x y : Nat) : Nat := match FloatKind.f32.format.order x y with
  | none => qn .f32
  | some .lt => y
  | some .gt => x
  | some .eq => if (FloatKind.f32.decode x).neg then y else x
theorem run_max2 {P : Program} (ts : Array TypeId) (t : TypeId) (x y : Nat) (w : World) : ∃ r j, cn .f32 r = cn .f32 (mx2 x y) ∧ (r = mx2 x y ∨ nn .f32 r = true) ∧ (Go.Builtin.max2 (.float .f32 x) (.float .f32 y)).run P w = .ok (.float .f32 r) (w.drewN j) := by
  cases h : FloatKind.f32.format.order x y with
  | none =>
    have hc := nan_cut .f32 (.nanMinMax .f32 true x y) (w.tape w.drawn (.nanMinMax .f32 true x y)) (by intro t; rfl)
    have e : mx2 x y = qn .f32 := by unfold mx2; rw [h]
    have e2 : Go.Builtin.max2 (.float .f32 x) (.float .f32 y) = (Sem.bind (choose (.nanMinMax .f32 true x y)) fun t => Sem.pure (Value.float .f32 t)) := by simp only [Go.Builtin.max2, h]; rfl
    refine ⟨_, 1, ?_, .inr hc.1, ?_⟩
    · rw [cn_of_nan hc.1, e, cn_of_nan (nn_qn _)]
    · rw [e2]
      exact run_choose (.nanMinMax .f32 true x y) rfl (fun t => Value.float .f32 t) w
  | some o =>
    have e2 : Go.Builtin.max2 (.float .f32 x) (.float .f32 y) = Sem.pure (Value.float .f32 (mx2 x y)) := by
      unfold mx2
      cases o <;> (simp only [Go.Builtin.max2, h]; rfl)
    exact ⟨_, 0, rfl, .inl rfl, by rw [e2]; rfl⟩

/-- the greater one of a number that is not negative and of any other -/
theorem mx2_num {m t : Nat} (hm : m ≤ 2139095040) (ht : t < 4294967296) (hn : t % 2147483648 ≤ 2139095040) : mx2 m t = if t < 2147483648 then max m t else m := by
  have n1 : nn .f32 m = false := nn_small (by omega)
  have n2 : nn .f32 t = false := nn_small hn
  have km := kpos (x := m) (by omega)
  unfold mx2
  rw [ordk n1 n2, km]
  by_cases hs : t < 2147483648
  · rw [if_pos hs, kpos hs]
    by_cases h1 : m < t
    · rw [icmp_lt (by omega)]; simp only []; omega
    · by_cases h2 : m = t
      · rw [icmp_eq (by omega)]
        simp only []
        rw [dneg (by omega) hm]
        simp; omega
      · rw [icmp_gt (by omega)]; simp only []; omega
  · rw [if_neg hs, kneg (by omega) ht]
    by_cases h2 : m = 0 ∧ t = 2147483648
    · rw [icmp_eq (by omega)]
      simp only []
      rw [dneg (by omega) hm]
      simp
    · rw [icmp_gt (by omega)]
/-- infinite, or no number -/
def Bdd (x : Nat) : Prop := nn .f32 x = true ∨ x = 2139095040
theorem Bdd.cn {x y : Nat} (h : Bdd y) (e : Go.Proofs.Ytabdinmodopadaa.cn .f32 x = Go.Proofs.Ytabdinmodopadaa.cn .f32 y) (hr : x = y ∨ nn .f32 x = true) : Bdd x := by
  rcases hr with rfl | hr
  · exact h
  · exact .inl hr
theorem mx2_nanl {x y : Nat} (h : nn .f32 x = true) : mx2 x y = qn .f32 := by
  unfold mx2; rw [ord_key, h]; rfl
theorem mx2_nanr {x y : Nat} (h : nn .f32 y = true) : mx2 x y = qn .f32 := by
  unfold mx2; rw [ord_key, h, Bool.or_true]; rfl
theorem mx2_badl {x y : Nat} (h : Bdd x) (hy : y < 4294967296) : Bdd (mx2 x y) := by
  rcases h with h | rfl
  · rw [mx2_nanl h]; exact .inl (nn_qn _)
  · cases hn : nn .f32 y
    · have hb := nn_big hn
      rw [mx2_num (by omega) hy hb]
      split
      · refine .inr ?_; omega
      · exact .inr rfl
    · rw [mx2_nanr hn]; exact .inl (nn_qn _)
theorem mx2_badr {m t : Nat} (hm : m ≤ 2139095040) (h : Bdd t) : Bdd (mx2 m t) := by
  rcases h with h | rfl
  · rw [mx2_nanr h]; exact .inl (nn_qn _)
  · rw [mx2_num hm (by decide) (by decide), if_pos (by decide)]
    exact .inr (by omega)
/-- what the greatest one is: a number that is not negative, or none -/
def Rep (m : Nat) : Option Nat → Prop
  | some v => m = v ∧ v < 2139095040
  | none => Bdd m
def nextV (V : Option Nat) (q : Nat) : Option Nat := match V with
  | none => none
  | some v => if q % 2147483648 < 2139095040 then some (max v (q % 2147483648)) else none
/-- the greatest one of what was, a number and its opposite -/
theorem run_max3 {P : Program} (ts : Array TypeId) (t : TypeId) (m q : Nat) (V : Option Nat) (hm : Rep m V) (hq : q < 4294967296) (w : World) :
    ∃ r j, Rep r (nextV V q) ∧ (Go.Builtin.max_ ts t #[.float .f32 m, .float .f32 q, .float .f32 (Op.negFloat .f32 q)]).run P w = .ok (.float .f32 r) (w.drewN j) := by
  obtain ⟨r1, j1, c1, d1, e1⟩ := run_max2 (P := P) ts t m q w
  obtain ⟨r2, j2, c2, d2, e2⟩ := run_max2 (P := P) ts t r1 (Op.negFloat .f32 q) (w.drewN j1)
  have hN := neg_bits hq
  refine ⟨r2, j1 + j2, ?_, ?_⟩
  · cases V with
    | none =>
      have b1 : Bdd r1 := (mx2_badl hm hq).cn c1 d1
      have b2 := mx2_badl (y := Op.negFloat .f32 q) b1 (by rw [hN]; split <;> omega)
      exact b2.cn c2 d2
    | some v =>
      obtain ⟨rfl, hv⟩ := hm
      unfold nextV
      by_cases hf : q % 2147483648 < 2139095040
      · simp only []
        rw [if_pos hf]
        have f1 := mx2_num (m := m) (t := q) (by omega) hq (by omega)
        have g1 : r1 = mx2 m q := by
          rcases d1 with d1 | d1
          · exact d1
          · rw [cn_of_nan d1, f1, cn_of_num (nn_small (by split <;> omega))] at c1
            exfalso
            have : nn .f32 (qn .f32) = false := by rw [c1]; exact nn_small (by split <;> omega)
            rw [nn_qn] at this; cases this
        have f2 := mx2_num (m := r1) (t := Op.negFloat .f32 q) (by rw [g1, f1]; split <;> omega) (by rw [hN]; split <;> omega) (by rw [hN]; split <;> omega)
        have g2 : r2 = mx2 r1 (Op.negFloat .f32 q) := by
          rcases d2 with d2 | d2
          · exact d2
          · rw [cn_of_nan d2, f2, cn_of_num (nn_small (by rw [g1, f1, hN]; split <;> split <;> omega))] at c2
            exfalso
            have : nn .f32 (qn .f32) = false := by rw [c2]; exact nn_small (by rw [g1, f1, hN]; split <;> split <;> omega)
            rw [nn_qn] at this; cases this
        show r2 = max m (q % 2147483648) ∧ max m (q % 2147483648) < 2139095040
        rw [g2, f2, g1, f1, hN]
        constructor
        · split <;> split <;> omega
        · omega
      · simp only []
        rw [if_neg hf]
        show Bdd r2
        cases hn : nn .f32 q
        · have hb := nn_big hn
          by_cases hs : q < 2147483648
          · have hq' : q = 2139095040 := by omega
            have b1 : Bdd r1 := (mx2_badr (by omega) (.inr hq')).cn c1 d1
            exact (mx2_badl (y := Op.negFloat .f32 q) b1 (by rw [hN]; split <;> omega)).cn c2 d2
          · have f1 := mx2_num (m := m) (t := q) (by omega) hq (by omega)
            rw [if_neg hs] at f1
            have g1 : r1 = m := by
              rcases d1 with d1 | d1
              · rw [d1, f1]
              · rw [cn_of_nan d1, f1, cn_of_num (nn_small (by omega))] at c1
                exfalso
                have : nn .f32 (qn .f32) = false := by rw [c1]; exact nn_small (by omega)
                rw [nn_qn] at this; cases this
            have : Bdd (Op.negFloat .f32 q) := .inr (by rw [hN, if_neg hs]; omega)
            exact (mx2_badr (m := r1) (by omega) this).cn c2 d2
        · have b1 : Bdd r1 := (show Bdd (mx2 m q) by rw [mx2_nanr hn]; exact .inl (nn_qn _)).cn c1 d1
          exact (mx2_badl (y := Op.negFloat .f32 q) b1 (by rw [hN]; split <;> omega)).cn c2 d2
  · unfold Go.Builtin.max_
    show (List.foldlM Go.Builtin.max2 (.float .f32 m) [.float .f32 q, .float .f32 (Op.negFloat .f32 q)]).run P w = _
    simp only [List.foldlM, Sem.run_bind, e1, Result.andThen_ok, e2, Sem.run_pure, World.drewN_drewN]
end Go.Proofs.Ytabdinmodopadaa
