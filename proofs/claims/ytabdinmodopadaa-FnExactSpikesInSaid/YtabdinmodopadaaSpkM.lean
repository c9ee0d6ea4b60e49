/- Differences of finite numbers. -/
import Derived.Test.YtabdinmodopadaaSz7
import Derived.Test.YtabdinmodopadaaSnQ
namespace Go.Proofs.Ytabdinmodopadaa
open Go.RowKit
set_option linter.unusedVariables false

theorem near_any (m : Nat) (e : Int) : ∃ k, k ≤ 2139095040 ∧ (m = 0 → k = 0) ∧ ∀ s, Ieee.single.nearest s m e = Ieee.single.word s k := by
  by_cases h : m = 0
  · exact ⟨0, by omega, fun _ => rfl, fun s => by unfold Ieee.Format.nearest; rw [if_pos h]⟩
  · refine ⟨_, Nat.min_le_right ((max (e + m.log2 - Ieee.single.fractionBits) Ieee.single.leastPlace - Ieee.single.leastPlace).toNat * Ieee.single.binade + Ieee.Toward.even.cut false (m <<< (e - max (e + m.log2 - Ieee.single.fractionBits) Ieee.single.leastPlace).toNat) (max (e + m.log2 - Ieee.single.fractionBits) Ieee.single.leastPlace - e).toNat) 2139095040, fun h' => absurd h' h, fun s => ?_⟩
    unfold Ieee.Format.nearest
    rw [if_neg h, ← s_inf]
    cases s <;> rfl
theorem signed_not (s : Bool) (m k : Nat) : Ieee.signed (!s) m k = -(Ieee.signed s m k) := by
  unfold Ieee.signed
  cases s
  · rfl
  · simp
theorem sub_some {a b s m i t n j} (hr : Ieee.single.read a = .number s m i) (hq : Ieee.single.read b = .number t n j) (T : Int) (hT : T = Ieee.signed s m (i - min i j).toNat + Ieee.signed (!t) n (j - min i j).toNat) : fop .sub .f32 a b = Ieee.single.nearest (if T = 0 then s && !t else decide (T < 0)) T.natAbs (min i j) := by
  have e : floatBits .sub .f32 a b = some (Ieee.single.nearest (if T = 0 then s && !t else decide (T < 0)) T.natAbs (min i j)) := by
    show ((Ieee.single.read a).sum (Ieee.single.read b).opposite).map Ieee.single.write = _
    rw [hr, hq, hT]
    rfl
  unfold fop
  rw [e]; rfl
/-- a difference of finite numbers, and the other way round -/
theorem sub_two {a b : Nat} (ha : fin .f32 a = true) (hb : fin .f32 b = true) : ∃ k, k ≤ 2139095040 ∧ ((fop .sub .f32 a b = k ∧ (fop .sub .f32 b a = k + 2147483648 ∨ (k = 0 ∧ fop .sub .f32 b a = 0))) ∨ (fop .sub .f32 a b = k + 2147483648 ∧ fop .sub .f32 b a = k)) := by
  obtain ⟨s, m, i, hr⟩ := fin_number ha
  obtain ⟨t, n, j, hq⟩ := fin_number hb
  have h1 := sub_some hr hq _ rfl
  have h2 := sub_some hq hr _ rfl
  rw [Int.min_comm j i] at h2
  have hT : Ieee.signed t n (j - min i j).toNat + Ieee.signed (!s) m (i - min i j).toNat = -(Ieee.signed s m (i - min i j).toNat + Ieee.signed (!t) n (j - min i j).toNat) := by
    rw [signed_not, signed_not]; omega
  rw [hT] at h2
  generalize Ieee.signed s m (i - min i j).toNat + Ieee.signed (!t) n (j - min i j).toNat = T at *
  rw [Int.natAbs_neg] at h2
  obtain ⟨k, hk, h0, hw⟩ := near_any T.natAbs (min i j)
  rw [hw, s_word] at h1 h2
  refine ⟨k, hk, ?_⟩
  by_cases z : T = 0
  · have k0 := h0 (by omega)
    have e1 : (if T = 0 then s && !t else decide (T < 0)) = (s && !t) := if_pos z
    have e2 : (if -T = 0 then t && !s else decide (-T < 0)) = (t && !s) := if_pos (by omega)
    rw [e1] at h1
    rw [e2] at h2
    subst k0
    cases s <;> cases t <;> simp at h1 h2 <;> omega
  · by_cases g : T < 0
    · have e1 : (if T = 0 then s && !t else decide (T < 0)) = true := by rw [if_neg z]; simpa using g
      have e2 : (if -T = 0 then t && !s else decide (-T < 0)) = false := by rw [if_neg (by omega)]; simp; omega
      rw [e1, if_pos rfl] at h1
      rw [e2, if_neg (by decide)] at h2
      omega
    · have e1 : (if T = 0 then s && !t else decide (T < 0)) = false := by rw [if_neg z]; simpa using g
      have e2 : (if -T = 0 then t && !s else decide (-T < 0)) = true := by rw [if_neg (by omega)]; simp; omega
      rw [e1, if_neg (by decide)] at h1
      rw [e2, if_pos rfl] at h2
      omega
/-- how far two numbers lie apart -/
def spS (x m : Nat) : Nat := fop .sub .f32 x m % 2147483648
theorem dec_neg0 {x : Nat} (h : x = 2147483648) : (FloatKind.f32.decode x).neg = true := by
  have e : FloatKind.f32.decode x = .number true (mg Ieee.single (x % Ieee.single.signWeight)) (Ieee.single.leastPlace + (ex Ieee.single (x % Ieee.single.signWeight) : Nat)) := by
    have := read_fin Ieee.single x (by rw [s_sw, s_inf]; omega)
    rw [s_sw] at this ⊢
    rw [show (x / 2147483648 % 2 == 1) = true by simp; omega] at this
    exact this
  rw [e]; rfl
theorem mx2_opp {k q : Nat} (hk : k ≤ 2139095040) (hq : q = k + 2147483648) : mx2 q k = k := by
  have n1 : nn .f32 q = false := nn_small (by omega)
  have n2 : nn .f32 k = false := nn_small (by omega)
  have ho := ordk n1 n2
  rw [kneg (x := q) (by omega) (by omega), kpos (x := k) (by omega)] at ho
  unfold mx2
  by_cases z : k = 0
  · rw [icmp_eq (by omega)] at ho
    rw [ho]
    have hd := dec_neg0 (x := q) (by omega)
    simp only [hd, if_true]
  · rw [icmp_lt (by omega)] at ho
    rw [ho]
theorem sp_max {x m : Nat} (hx : fin .f32 x = true) (hm : fin .f32 m = true) : mx2 (fop .sub .f32 x m) (fop .sub .f32 m x) = spS x m ∧ fop .sub .f32 x m < 4294967296 ∧ fop .sub .f32 x m % 2147483648 ≤ 2139095040 ∧ fop .sub .f32 m x < 4294967296 ∧ fop .sub .f32 m x % 2147483648 ≤ 2139095040 := by
  obtain ⟨k, hk, h⟩ := sub_two hx hm
  unfold spS
  generalize fop .sub .f32 x m = d at *
  generalize fop .sub .f32 m x = d' at *
  rcases h with ⟨h1, h2 | ⟨h0, h2⟩⟩ | ⟨h1, h2⟩
  · have e := mx2_num (m := d) (t := d') (by omega) (by omega) (by omega)
    rw [if_neg (by omega)] at e
    omega
  · have e := mx2_num (m := d) (t := d') (by omega) (by omega) (by omega)
    rw [if_pos (by omega)] at e
    omega
  · have e := mx2_opp (k := d') (q := d) (by omega) (by omega)
    omega
theorem sp_sub {x m r : Nat} (hx : fin .f32 x = true) (hm : fin .f32 m = true) (h : FR .sub .f32 x m r) : r = fop .sub .f32 x m := by
  obtain ⟨_, _, h3, _, _⟩ := sp_max hx hm
  exact num_of_cn (by rw [h.1]; simp only [fopl', fopr']) h3
theorem run_maxN {P : Program} (ts : Array TypeId) (t : TypeId) (x y : Nat) (w : World) (hx : nn .f32 x = false) (hy : nn .f32 y = false) : (Go.Builtin.max_ ts t #[.float .f32 x, .float .f32 y]).run P w = .ok (.float .f32 (mx2 x y)) w := by
  have e2 : Go.Builtin.max2 (.float .f32 x) (.float .f32 y) = Sem.pure (Value.float .f32 (mx2 x y)) := by
    unfold mx2
    have h := ordk hx hy
    cases hc : compare (key FloatKind.f32.format x) (key FloatKind.f32.format y) <;> (rw [hc] at h; simp only [Go.Builtin.max2, h]; rfl)
  unfold Go.Builtin.max_
  show (List.foldlM Go.Builtin.max2 (.float .f32 x) [.float .f32 y]).run P w = _
  simp only [List.foldlM, Sem.run_bind, e2]
  rfl

end Go.Proofs.Ytabdinmodopadaa
