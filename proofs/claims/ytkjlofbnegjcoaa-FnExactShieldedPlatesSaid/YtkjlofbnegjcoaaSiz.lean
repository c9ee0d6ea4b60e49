/- How far two numbers lie apart: the greater one of two differences, and an absolute value. -/
import Derived.Test.YtkjlofbnegjcoaaSn
import Derived.Test.YtkjlofbnegjcoaaMaxF
namespace Go.Proofs.Ytkjlofbnegjcoaa
open Go.RowKit
set_option linter.unusedVariables false

theorem fin_iff32' (x : Nat) : fin .f32 x = decide (x % 2147483648 < 2139095040) := by
  cases hn : nn .f32 x
  · have hb := nn_big hn
    unfold fin
    rw [hn]
    show (!false && !(Ieee.single.read x).isInfinity) = _
    by_cases h : x % 2147483648 < 2139095040
    · rw [read_fin Ieee.single x (by rw [s_sw, s_inf]; exact h), decide_eq_true h]; rfl
    · rw [read_inf Ieee.single x (by rw [s_sw, s_inf]; omega) (by decide), decide_eq_false h]; rfl
  · rw [fin_nan hn]
    symm
    rw [decide_eq_false_iff_not]
    intro h
    have := nn_small (x := x) (by omega)
    rw [hn] at this; cases this
theorem num_of_cn' {s T : Nat} (h : cn .f32 s = T) (hT : T % 2147483648 ≤ 2139095040) : s = T := by
  cases hn : nn .f32 s
  · rw [cn_of_num hn] at h; exact h
  · rw [cn_of_nan hn] at h
    have := nn_small hT
    rw [← h, nn_qn] at this; cases this
theorem cn_small' {x : Nat} (h : x % 2147483648 ≤ 2139095040) : cn .f32 x = x := cn_of_num (nn_small h)
theorem sum_comm_num' (s t : Bool) (m n : Nat) (e j : Int) : (Ieee.Datum.number s m e).sum (.number t n j) = (Ieee.Datum.number t n j).sum (.number s m e) := by
  simp only [Ieee.Datum.sum]
  rw [Int.min_comm j e, Int.add_comm (Ieee.signed t n _) (Ieee.signed s m _), Bool.and_comm t s]
theorem sub_neg' {q : Nat} (hq : q < 4294967296) (hs : 2147483648 ≤ q) (hf : q % 2147483648 < 2139095040) : fop .sub .f32 0 q = q % 2147483648 := by
  have hR : q % 2147483648 < 2147483648 := Nat.mod_lt _ (by decide)
  generalize hr : q % 2147483648 = R at *
  have e1 : q / 2147483648 = 1 := by omega
  have r1 : Ieee.single.read q = .number true (mg Ieee.single R) (-149 + (ex Ieee.single R : Nat)) := by
    rw [read_fin Ieee.single q (by rw [s_sw, s_inf, hr]; exact hf), s_sw, s_lp, e1, hr]; rfl
  have r2 : Ieee.single.read R = .number false (mg Ieee.single R) (-149 + (ex Ieee.single R : Nat)) := by
    rw [read_fin Ieee.single R (by rw [s_sw, s_inf, Nat.mod_eq_of_lt hR]; exact hf), s_sw, s_lp, Nat.div_eq_of_lt hR, Nat.mod_eq_of_lt hR]; rfl
  have a := add_zero (x := R) (by omega) (by omega) (nn_small (by rw [Nat.mod_eq_of_lt hR]; omega))
  have e : floatBits .sub .f32 0 q = floatBits .add .f32 R 0 := by
    show ((Ieee.single.read 0).sum (Ieee.single.read q).opposite).map Ieee.single.write = ((Ieee.single.read R).sum (Ieee.single.read 0)).map Ieee.single.write
    rw [r1, r2, read_zero]
    show ((Ieee.Datum.number false 0 (-149)).sum (.number false (mg Ieee.single R) _)).map Ieee.single.write = _
    rw [sum_comm_num']
  unfold fop at a ⊢
  rw [e]; exact a

/-- the same size, with two signs -/
theorem near_flip (s t : Bool) (m : Nat) (e : Int) : ∃ k, k ≤ 2139095040 ∧ Ieee.single.nearest s m e = Ieee.single.word s k ∧ Ieee.single.nearest t m e = Ieee.single.word t k ∧ (m = 0 → k = 0) := by
  unfold Ieee.Format.nearest
  by_cases h : m = 0
  · rw [if_pos h, if_pos h]
    exact ⟨0, by omega, rfl, rfl, fun _ => rfl⟩
  · rw [if_neg h, if_neg h, s_inf]
    exact ⟨_, Nat.min_le_right _ _, rfl, rfl, fun h' => absurd h' h⟩
theorem signed_opp (s : Bool) (m u : Nat) : Ieee.signed (!s) m u = - Ieee.signed s m u := by
  unfold Ieee.signed
  cases s <;> simp
/-- two differences -/
theorem sub_flip {a b : Nat} (ha : fin .f32 a = true) (hb : fin .f32 b = true) : ∃ k s t, k ≤ 2139095040 ∧ fop .sub .f32 a b = Ieee.single.word s k ∧ fop .sub .f32 b a = Ieee.single.word t k ∧ ((s ≠ t) ∨ (k = 0 ∧ (s && t) = false)) := by
  obtain ⟨s, m, i, ea⟩ := fin_number ha
  obtain ⟨t, n, j, eb⟩ := fin_number hb
  have ea : Ieee.single.read a = .number s m i := ea
  have eb : Ieee.single.read b = .number t n j := eb
  have e1 : floatBits .sub .f32 a b = ((Ieee.single.read a).sum (Ieee.single.read b).opposite).map Ieee.single.write := rfl
  have e2 : floatBits .sub .f32 b a = ((Ieee.single.read b).sum (Ieee.single.read a).opposite).map Ieee.single.write := rfl
  unfold fop
  rw [e1, e2, ea, eb]
  simp only [Ieee.Datum.opposite, Ieee.Datum.sum, Option.map_some, Option.getD_some, Ieee.Format.write]
  rw [Int.min_comm j i, signed_opp, signed_opp]
  generalize Ieee.signed s m _ = A
  generalize Ieee.signed t n _ = B
  have e3 : (A + -B).natAbs = (B + -A).natAbs := by omega
  rw [e3]
  by_cases h : A + -B = 0
  · have h' : B + -A = 0 := by omega
    rw [if_pos h, if_pos h']
    obtain ⟨k, k1, k2, k3, k4⟩ := near_flip (s && !t) (t && !s) (B + -A).natAbs (min i j)
    refine ⟨k, _, _, k1, k2, k3, .inr ⟨k4 (by omega), ?_⟩⟩
    cases s <;> cases t <;> rfl
  · have h' : ¬ B + -A = 0 := by omega
    rw [if_neg h, if_neg h']
    obtain ⟨k, k1, k2, k3, k4⟩ := near_flip (decide (A + -B < 0)) (decide (B + -A < 0)) (B + -A).natAbs (min i j)
    refine ⟨k, _, _, k1, k2, k3, .inl ?_⟩
    by_cases h1 : A + -B < 0
    · rw [decide_eq_true h1, decide_eq_false (by omega)]; decide
    · rw [decide_eq_false h1, decide_eq_true (by omega)]; decide
/-- how far two numbers lie apart -/
def adX (a b : Nat) : Nat := fop .sub .f32 a b % 2147483648
theorem wordM (s : Bool) {k : Nat} (h : k ≤ 2139095040) : Ieee.single.word s k % 2147483648 = k := by rw [s_word]; split <;> omega
theorem wordL (s : Bool) {k : Nat} (h : k ≤ 2139095040) : Ieee.single.word s k < 4294967296 := by rw [s_word]; split <;> omega
theorem mx2_flip {k : Nat} {s t : Bool} (hk : k ≤ 2139095040) (h : (s ≠ t) ∨ (k = 0 ∧ (s && t) = false)) : mx2 (Ieee.single.word s k) (Ieee.single.word t k) = k := by
  have hm : ∀ (t : Bool), mx2 (Ieee.single.word false k) (Ieee.single.word t k) = k := fun t => by
    have e : Ieee.single.word false k = k := by rw [s_word]; rfl
    rw [e, mx2_num (m := k) hk (wordL t hk) (by rw [wordM t hk]; exact hk)]
    rw [s_word]
    cases t
    · simp only [Bool.false_eq_true, if_false]; split <;> omega
    · simp only [if_true]; rw [if_neg (by omega)]
  cases s
  · exact hm t
  · cases t
    · have e1 : Ieee.single.word false k = k := by rw [s_word]; rfl
      have e2 : Ieee.single.word true k = 2147483648 + k := by rw [s_word]; rfl
      have n1 : nn .f32 (2147483648 + k) = false := nn_small (by omega)
      have n2 : nn .f32 k = false := nn_small (by omega)
      rw [e1, e2]
      unfold mx2
      rw [ordk n1 n2, kneg (by omega) (by omega), kpos (x := k) (by omega)]
      by_cases h0 : k = 0
      · subst h0; decide +kernel
      · rw [icmp_lt (by omega)]
    · rcases h with h | ⟨_, h⟩
      · exact absurd rfl h
      · cases h
theorem FR_num {op : BinOp} {a b r : Nat} (h : FR op .f32 a b r) (ha : nn .f32 a = false) (hb : nn .f32 b = false) (hn : fop op .f32 a b % 2147483648 ≤ 2139095040) : r = fop op .f32 a b := by
  have := h.1
  rw [cn_of_num ha, cn_of_num hb] at this
  exact num_of_cn' this hn
theorem fin_nn {a : Nat} (h : fin .f32 a = true) : nn .f32 a = false := by
  cases hn : nn .f32 a
  · rfl
  · rw [fin_nan hn] at h; cases h
/-- the differences that are drawn, and their greater one -/
theorem ad_max {a b r s : Nat} (ha : fin .f32 a = true) (hb : fin .f32 b = true) (h1 : FR .sub .f32 a b r) (h2 : FR .sub .f32 b a s) : mx2 r s = adX a b ∧ adX a b ≤ 2139095040 := by
  obtain ⟨k, u, v, hk, e1, e2, hd⟩ := sub_flip ha hb
  have r1 := FR_num h1 (fin_nn ha) (fin_nn hb) (by rw [e1, wordM u hk]; exact hk)
  have r2 := FR_num h2 (fin_nn hb) (fin_nn ha) (by rw [e2, wordM v hk]; exact hk)
  unfold adX
  rw [r1, r2, e1, e2, mx2_flip hk hd, wordM u hk]
  exact ⟨rfl, hk⟩
theorem ad_sub {a b r : Nat} (ha : fin .f32 a = true) (hb : fin .f32 b = true) (h1 : FR .sub .f32 a b r) : r < 4294967296 ∧ nn .f32 r = false ∧ r % 2147483648 = adX a b := by
  obtain ⟨k, u, v, hk, e1, e2, hd⟩ := sub_flip ha hb
  have r1 := FR_num h1 (fin_nn ha) (fin_nn hb) (by rw [e1, wordM u hk]; exact hk)
  unfold adX
  rw [r1, e1]
  exact ⟨wordL u hk, nn_small (by rw [wordM u hk]; exact hk), rfl⟩

/-- an absolute value -/
theorem specSize5_any (q : Nat) (hq : q < 4294967296) (hn : nn .f32 q = false) (w : World) : Calls Try.prog 83 #[.float .f32 q] w fun e w' => e = .returned (.float .f32 (q % 2147483648)) ∧ ∃ n, w' = w.drewN n := by
  have hb := nn_big hn
  have n0 : nn .f32 0 = false := nn_small (by decide)
  have ho := ordk hn n0
  have k0 : key FloatKind.f32.format 0 = 0 := kpos (x := 0) (by decide)
  rw [k0] at ho
  by_cases hs : q < 2147483648 ∧ q ≠ 0
  · have f3 : (FloatKind.f32.format.order q 0 == some Ordering.lt || FloatKind.f32.format.order q 0 == some Ordering.eq) = false := by
      rw [ho, kpos hs.1, icmp_gt (by omega)]; rfl
    have E := Lib.hid (show q % 2147483648 = q from Nat.mod_eq_of_lt hs.1)
    clear ho hb k0 n0 hs
    go_enter Try.func83, Try.ntmps83
    go_wp2
    go_ret
    exact ⟨by rw [E.out]; rfl, 0, rfl⟩
  · have f3 : (FloatKind.f32.format.order q 0 == some Ordering.lt || FloatKind.f32.format.order q 0 == some Ordering.eq) = true := by
      by_cases h0 : q = 0
      · subst h0; decide +kernel
      · have h1 : 2147483648 ≤ q := by omega
        rw [ho, kneg h1 hq]
        by_cases h2 : q = 2147483648
        · rw [icmp_eq (by omega)]; rfl
        · rw [icmp_lt (by omega)]; rfl
    have F : Hid (∀ s, FR .sub .f32 0 q s → s = q % 2147483648) := Lib.hid (fun s h => by
      by_cases h0 : q = 0
      · subst h0
        exact num_of_cn' (T := 0) (by rw [h.1]; decide +kernel) (by decide)
      · have h1 : 2147483648 ≤ q := by omega
        have c : cn .f32 s = fop .sub .f32 0 q := by rw [h.1, cn_small' (x := 0) (by decide), cn_small' (by omega)]
        by_cases hf : q % 2147483648 < 2139095040
        · rw [sub_neg' hq h1 hf] at c
          exact num_of_cn' c (by rw [Nat.mod_mod]; omega)
        · have e : q = 4286578688 := by omega
          subst e
          exact num_of_cn' (s := s) (T := 2139095040) (by rw [c]; decide +kernel) (by decide))
    clear ho hb k0 n0 hs
    go_enter Try.func83, Try.ntmps83
    go_wp2_with (refine wpList_farith rfl _ _ _ _ _ rfl rfl _ _ _ rfl rfl ?_; intro r0 j0 f0)
    go_ret
    exact ⟨by rw [← F.out _ f0]; rfl, _, rfl⟩

theorem run_maxK {P : Program} (ts : Array TypeId) (t : TypeId) (m s k : Nat) (h : mx2 m s = k) (hk : k ≤ 2139095040) (w : World) : ∃ j, (Go.Builtin.max_ ts t #[.float .f32 m, .float .f32 s]).run P w = .ok (.float .f32 k) (w.drewN j) := by
  obtain ⟨r, j, c, d, e⟩ := run_max2 (P := P) ts t m s w
  rw [h] at c d
  have g := num_of_cn' (c.trans (cn_small' (by omega))) (by omega)
  subst g
  refine ⟨j, ?_⟩
  unfold Go.Builtin.max_
  show (List.foldlM Go.Builtin.max2 (.float .f32 m) [.float .f32 s]).run P w = _
  simp only [List.foldlM, Sem.run_bind, e, Result.andThen_ok, Sem.run_pure]
theorem upon_maxK {P : Program} {o : Oper} {a : Act} {K : Act → World → Prop} {Q : Exit → Act → World → Prop} {w : World} (T : Array TypeId) (t : TypeId) (m s k : Nat) (hx : mx2 m s = k) (hk : k ≤ 2139095040)
    (h : ∀ j, Oper.upon P o a K Q ((Result.ok (Value.float .f32 k) (w.drewN j)).andThen fun v w' => .ok (Next.value v) w')) :
    Oper.upon P o a K Q (((Go.Builtin.max_ T t #[.float .f32 m, .float .f32 s]).run P w).andThen fun v w' => .ok (Next.value v) w') := by
  obtain ⟨j, hw⟩ := run_maxK (P := P) T t m s k hx hk w
  rw [hw]
  exact h j

end Go.Proofs.Ytkjlofbnegjcoaa
