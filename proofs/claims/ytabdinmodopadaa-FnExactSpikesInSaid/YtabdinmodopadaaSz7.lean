/- Sizes of numbers, and the rules of the walk for max (as for plates). -/
import Derived.Test.YtabdinmodopadaaMaxF
import Derived.Test.YtabdinmodopadaaZero
import Derived.Test.YtabdinmodopadaaSl
namespace Go.Proofs.Ytabdinmodopadaa
open Go.RowKit
set_option linter.unusedVariables false

theorem fin_iff32 (x : Nat) : fin .f32 x = decide (x % 2147483648 < 2139095040) := by
  cases hn : nn .f32 x
  · have hb := nn_big hn
    unfold fin
    rw [hn]
    show (!false && !(Ieee.single.read x).isInfinity) = _
    by_cases h : x % 2147483648 < 2139095040
    · rw [read_fin Ieee.single x (by rw [s_sw, s_inf]; exact h), decide_eq_true h]; rfl
    · rw [read_inf Ieee.single x (by rw [s_sw, s_inf]; omega) (by decide), decide_eq_false h]; rfl
  · rw [fin_nan hn]
    symm
    rw [decide_eq_false_iff_not]
    intro h
    have := nn_small (x := x) (by omega)
    rw [hn] at this; cases this
theorem nextV_cn (V : Option Nat) (q : Nat) : nextV V (cn .f32 q) = nextV V q := by
  cases hn : nn .f32 q
  · rw [cn_of_num hn]
  · rw [cn_of_nan hn]
    cases V with
    | none => rfl
    | some v =>
      unfold nextV
      simp only []
      have h1 : ¬ q % 2147483648 < 2139095040 := fun h => by
        have := nn_small (x := q) (by omega)
        rw [hn] at this; cases this
      rw [if_neg h1, if_neg (by decide)]
theorem sum_comm_num (s t : Bool) (m n : Nat) (e j : Int) : (Ieee.Datum.number s m e).sum (.number t n j) = (Ieee.Datum.number t n j).sum (.number s m e) := by
  simp only [Ieee.Datum.sum]
  rw [Int.min_comm j e, Int.add_comm (Ieee.signed t n _) (Ieee.signed s m _), Bool.and_comm t s]
theorem sub_neg {q : Nat} (hq : q < 4294967296) (hs : 2147483648 ≤ q) (hf : q % 2147483648 < 2139095040) : fop .sub .f32 0 q = q % 2147483648 := by
  have hR : q % 2147483648 < 2147483648 := Nat.mod_lt _ (by decide)
  generalize hr : q % 2147483648 = R at *
  have e1 : q / 2147483648 = 1 := by omega
  have r1 : Ieee.single.read q = .number true (mg Ieee.single R) (-149 + (ex Ieee.single R : Nat)) := by
    rw [read_fin Ieee.single q (by rw [s_sw, s_inf, hr]; exact hf), s_sw, s_lp, e1, hr]; rfl
  have r2 : Ieee.single.read R = .number false (mg Ieee.single R) (-149 + (ex Ieee.single R : Nat)) := by
    rw [read_fin Ieee.single R (by rw [s_sw, s_inf, Nat.mod_eq_of_lt hR]; exact hf), s_sw, s_lp, Nat.div_eq_of_lt hR, Nat.mod_eq_of_lt hR]; rfl
  have a := add_zero (x := R) (by omega) (by omega) (nn_small (by rw [Nat.mod_eq_of_lt hR]; omega))
  have e : floatBits .sub .f32 0 q = floatBits .add .f32 R 0 := by
    show ((Ieee.single.read 0).sum (Ieee.single.read q).opposite).map Ieee.single.write = ((Ieee.single.read R).sum (Ieee.single.read 0)).map Ieee.single.write
    rw [r1, r2, read_zero]
    show ((Ieee.Datum.number false 0 (-149)).sum (.number false (mg Ieee.single R) _)).map Ieee.single.write = _
    rw [sum_comm_num]
  unfold fop at a ⊢
  rw [e]; exact a
theorem num_of_cn {s T : Nat} (h : cn .f32 s = T) (hT : T % 2147483648 ≤ 2139095040) : s = T := by
  cases hn : nn .f32 s
  · rw [cn_of_num hn] at h; exact h
  · rw [cn_of_nan hn] at h
    have := nn_small hT
    rw [← h, nn_qn] at this; cases this
/-- a size -/
def Siz (q s : Nat) : Prop := s < 4294967296 ∧ (q % 2147483648 < 2139095040 → s = q % 2147483648) ∧ (¬ q % 2147483648 < 2139095040 → ¬ s % 2147483648 < 2139095040)
theorem cn_small {x : Nat} (h : x % 2147483648 ≤ 2139095040) : cn .f32 x = x := cn_of_num (nn_small h)
theorem wf_lt {x : Nat} (h : (Lit.float .f32 x).wf = true) : x < 4294967296 := by simpa [Lit.wf] using h

theorem specSize_any (q : Nat) (hq : q < 4294967296) (w : World) : Calls Try.prog 53 #[.float .f32 q] w fun e w' => ∃ s, Siz q s ∧ e = .returned (.float .f32 s) ∧ ∃ n, w' = w.drewN n := by
  cases hn : nn .f32 q
  · have hb := nn_big hn
    have n0 : nn .f32 0 = false := nn_small (by decide)
    have ho := ordk hn n0
    have k0 : key FloatKind.f32.format 0 = 0 := kpos (x := 0) (by decide)
    rw [k0] at ho
    by_cases hs : q < 2147483648
    · rw [kpos hs] at ho
      by_cases h0 : q = 0
      · subst h0
        rw [icmp_eq (by rfl)] at ho
        have f1 : (FloatKind.f32.format.order 0 0 == some Ordering.lt) = false := by rw [ho]; rfl
        have f2 : (FloatKind.f32.format.order 0 0 == some Ordering.eq) = true := by rw [ho]; rfl
        clear ho
        go_enter Try.func53, Try.ntmps53
        go_wp2_with (first | (refine wpList_farith rfl _ _ _ _ _ rfl rfl _ _ _ rfl rfl ?_; intro _ _ _))
        go_ret
        rename_i h1
        refine ⟨_, ?_, rfl, _, rfl⟩
        have e := num_of_cn (T := 0) (by rw [h1.1]; decide +kernel) (by decide)
        exact ⟨wf_lt h1.2, fun _ => by rw [e], fun h => absurd (by decide) h⟩
      · rw [icmp_gt (by omega)] at ho
        have f1 : (FloatKind.f32.format.order q 0 == some Ordering.lt) = false := by rw [ho]; rfl
        have f2 : (FloatKind.f32.format.order q 0 == some Ordering.eq) = false := by rw [ho]; rfl
        clear ho
        go_enter Try.func53, Try.ntmps53
        go_wp2_with (first | (refine wpList_farith rfl _ _ _ _ _ rfl rfl _ _ _ rfl rfl ?_; intro _ _ _))
        go_ret
        exact ⟨q, ⟨hq, fun _ => (Nat.mod_eq_of_lt hs).symm, fun h => h⟩, rfl, 0, rfl⟩
    · rw [kneg (by omega) hq] at ho
      have f3 : (FloatKind.f32.format.order q 0 == some Ordering.lt || FloatKind.f32.format.order q 0 == some Ordering.eq) = true := by
        by_cases h1 : q = 2147483648
        · rw [icmp_eq (by omega)] at ho; rw [ho]; rfl
        · rw [icmp_lt (by omega)] at ho; rw [ho]; rfl
      have F : Hid (∀ s, FR .sub .f32 0 q s → Siz q s) := Lib.hid (fun s h => by
        have c : cn .f32 s = fop .sub .f32 0 q := by rw [h.1, cn_small (x := 0) (by decide), cn_small (by omega)]
        by_cases hf : q % 2147483648 < 2139095040
        · rw [sub_neg hq (by omega) hf] at c
          have e := num_of_cn c (by rw [Nat.mod_mod]; omega)
          exact ⟨wf_lt h.2, fun _ => e, fun h => absurd hf h⟩
        · have e : q = 4286578688 := by omega
          subst e
          have e2 := num_of_cn (s := s) (T := 2139095040) (by rw [c]; decide +kernel) (by decide)
          exact ⟨wf_lt h.2, fun h => absurd h (by decide), fun _ => by rw [e2]; decide⟩)
      clear ho
      generalize hx : (FloatKind.f32.format.order q 0 == some Ordering.lt) = u at *
      generalize hy : (FloatKind.f32.format.order q 0 == some Ordering.eq) = v at *
      cases u <;> cases v
      · cases f3
      all_goals
        go_enter Try.func53, Try.ntmps53
        go_wp2_with (first | (refine wpList_farith rfl _ _ _ _ _ rfl rfl _ _ _ rfl rfl ?_; intro _ _ _))
        go_ret
        rename_i h1
        exact ⟨_, F.out _ h1, rfl, _, rfl⟩
  · have ho : FloatKind.f32.format.order q 0 = none := by rw [ord_key, hn]; rfl
    have f1 : (FloatKind.f32.format.order q 0 == some Ordering.lt) = false := by rw [ho]; rfl
    have f2 : (FloatKind.f32.format.order q 0 == some Ordering.eq) = false := by rw [ho]; rfl
    have nf : ¬ q % 2147483648 < 2139095040 := fun h => by
      have := nn_small (x := q) (by omega)
      rw [hn] at this; cases this
    clear ho
    go_enter Try.func53, Try.ntmps53
    go_wp2_with (first | (refine wpList_farith rfl _ _ _ _ _ rfl rfl _ _ _ rfl rfl ?_; intro _ _ _))
    go_ret
    exact ⟨q, ⟨hq, fun h => absurd h nf, fun h => h⟩, rfl, 0, rfl⟩

theorem run_maxS {P : Program} (ts : Array TypeId) (t : TypeId) (m s : Nat) (hm : m < 2139095040) (hs : s < 2139095040) (w : World) : ∃ j, (Go.Builtin.max_ ts t #[.float .f32 m, .float .f32 s]).run P w = .ok (.float .f32 (max m s)) (w.drewN j) := by
  obtain ⟨r, j, c, d, e⟩ := run_max2 (P := P) ts t m s w
  have f := mx2_num (m := m) (t := s) (by omega) (by omega) (by omega)
  rw [if_pos (by omega)] at f
  rw [f] at c d
  have g := num_of_cn (c.trans (cn_small (by omega))) (by omega)
  subst g
  refine ⟨j, ?_⟩
  unfold Go.Builtin.max_
  show (List.foldlM Go.Builtin.max2 (.float .f32 m) [.float .f32 s]).run P w = _
  simp only [List.foldlM, Sem.run_bind, e, Result.andThen_ok, Sem.run_pure]
theorem upon_maxS {P : Program} {o : Oper} {a : Act} {K : Act → World → Prop} {Q : Exit → Act → World → Prop} {w : World} (T : Array TypeId) (t : TypeId) (m s : Nat) (hm : m < 2139095040) (hs : s < 2139095040)
    (h : ∀ j, Oper.upon P o a K Q ((Result.ok (Value.float .f32 (max m s)) (w.drewN j)).andThen fun v w' => .ok (Next.value v) w')) :
    Oper.upon P o a K Q (((Go.Builtin.max_ T t #[.float .f32 m, .float .f32 s]).run P w).andThen fun v w' => .ok (Next.value v) w') := by
  obtain ⟨j, hw⟩ := run_maxS (P := P) T t m s hm hs w
  rw [hw]
  exact h j
theorem upon_max3 {P : Program} {o : Oper} {a : Act} {K : Act → World → Prop} {Q : Exit → Act → World → Prop} {w : World} (T : Array TypeId) (t : TypeId) (m q : Nat) (V : Option Nat) (hm : Rep m V) (hq : q < 4294967296)
    (h : ∀ r j, Rep r (nextV V q) → Oper.upon P o a K Q ((Result.ok (Value.float .f32 r) (w.drewN j)).andThen fun v w' => .ok (Next.value v) w')) :
    Oper.upon P o a K Q (((Go.Builtin.max_ T t #[.float .f32 m, .float .f32 q, .float .f32 (Op.negFloat .f32 q)]).run P w).andThen fun v w' => .ok (Next.value v) w') := by
  obtain ⟨r, j, hr, hw⟩ := run_max3 (P := P) T t m q V hm hq w
  rw [hw]
  exact h r j hr
end Go.Proofs.Ytabdinmodopadaa
