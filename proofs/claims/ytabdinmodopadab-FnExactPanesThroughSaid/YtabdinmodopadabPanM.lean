/- What goes through panes: two numbers whose sum is a share are shares. -/
import Derived.Test.YtabdinmodopadabSnS
import Derived.Test.YtabdinmodopadabSnL
import Derived.Test.YtabdinmodopadabMaxF
namespace Go.Proofs.Ytabdinmodopadab
open Go
set_option linter.unusedVariables false

theorem cut_ge (neg : Bool) (n d c : Nat) (h : c * 2 ^ d ≤ n) : c ≤ Ieee.Toward.even.cut neg n d := by
  unfold Ieee.Toward.cut
  dsimp only
  refine Nat.le_trans ?_ (Nat.le_add_right _ _)
  rw [Nat.one_shiftLeft]
  refine (Nat.le_div_iff_mul_le (Nat.two_pow_pos _)).2 ?_
  exact Nat.le_trans (Nat.mul_le_mul_left _ (Nat.pow_le_pow_right (by decide) (Nat.min_le_left _ _))) h

theorem near_over {M m : Nat} {e i : Int} (h9 : -149 ≤ e) (he : e ≤ i) (hi : -23 ≤ i) (hm : 8388608 ≤ m) (hx : i = -23 → 8388609 ≤ m) (hM : m * 2 ^ (i - e).toNat ≤ M) :
    ∃ k, 1065353217 ≤ k ∧ k ≤ 2139095040 ∧ Ieee.single.nearest false M e = Ieee.single.word false k := by
  have p0 : 0 < 2 ^ (i - e).toNat := Nat.two_pow_pos _
  have hM1 : m ≤ M := Nat.le_trans (Nat.le_mul_of_pos_right _ p0) hM
  have hz : M ≠ 0 := by omega
  have hl := Nat.log2_self_le hz
  have l23 : 23 ≤ M.log2 := (Nat.le_log2 hz).2 (show 8388608 ≤ M by omega)
  have l0 : 0 ≤ e + (M.log2 : Int) := by
    by_cases h : -23 ≤ e
    · omega
    · have h1 : (2 : Nat) ^ (-e).toNat ≤ M := by
        refine Nat.le_trans ?_ hM
        have e1 : (-e).toNat = 23 + (-23 - e).toNat := by omega
        rw [e1, Nat.pow_add]
        exact Nat.mul_le_mul (show 8388608 ≤ m from hm) (Nat.pow_le_pow_right (by decide) (by omega))
      have := (Nat.le_log2 hz).2 h1
      omega
  unfold Ieee.Format.nearest
  rw [if_neg hz, s_bin, s_inf, s_lp]
  refine ⟨_, ?_, Nat.min_le_right _ _, rfl⟩
  have hf : ((Ieee.single.fractionBits : Nat) : Int) = 23 := rfl
  rw [hf]
  refine Nat.le_min.2 ⟨?_, by decide⟩
  generalize M.log2 = L at *
  have hmax : max (e + (L : Int) - 23) (-149) = e + (L : Int) - 23 := Int.max_eq_left (by omega)
  have e1 : (e - (e + (L : Int) - 23)).toNat = 0 := by omega
  have e2 : ((e + (L : Int) - 23) - e).toNat = L - 23 := by omega
  rw [hmax, e1, e2, Nat.shiftLeft_zero]
  by_cases h1 : 1 ≤ e + (L : Int)
  · have hc : 8388608 ≤ Ieee.Toward.even.cut false M (L - 23) := by
      refine cut_ge _ _ _ _ (Nat.le_trans ?_ hl)
      have e3 : 2 ^ L = 2 ^ 23 * 2 ^ (L - 23) := by rw [← Nat.pow_add]; congr 1; omega
      rw [e3]; exact Nat.le_refl _
    generalize Ieee.Toward.even.cut false M (L - 23) = c at *
    have : 127 ≤ (e + (L : Int) - 23 - -149).toNat := by omega
    omega
  · have hc : 8388609 ≤ Ieee.Toward.even.cut false M (L - 23) := by
      refine cut_ge _ _ _ _ (Nat.le_trans ?_ hM)
      by_cases hi' : i = -23
      · have e3 : (i - e).toNat = L - 23 := by omega
        rw [e3]; exact Nat.mul_le_mul_right _ (hx hi')
      · have h2 : 2 ^ (L - 23) * 2 ≤ 2 ^ (i - e).toNat := by rw [← Nat.pow_succ]; exact Nat.pow_le_pow_right (by decide) (by omega)
        have h3 := Nat.mul_le_mul hm h2
        have h4 : 0 < 2 ^ (L - 23) := Nat.two_pow_pos _
        refine Nat.le_trans ?_ h3
        generalize 2 ^ (L - 23) = z at *
        omega
    generalize Ieee.Toward.even.cut false M (L - 23) = c at *
    have : 126 ≤ (e + (L : Int) - 23 - -149).toNat := by omega
    omega

theorem near_word (s : Bool) (m : Nat) (e : Int) : ∃ k, k ≤ 2139095040 ∧ Ieee.single.nearest s m e = Ieee.single.word s k ∧ (m = 0 → k = 0) := by
  unfold Ieee.Format.nearest
  by_cases h : m = 0
  · rw [if_pos h]
    exact ⟨0, by omega, rfl, fun _ => rfl⟩
  · rw [if_neg h, s_inf]
    exact ⟨_, Nat.min_le_right _ _, rfl, fun h' => absurd h' h⟩
theorem finP_iff (x : Nat) : fin .f32 x = decide (x % 2147483648 < 2139095040) := by
  cases hn : nn .f32 x
  · have hb := nn_big hn
    unfold fin
    rw [hn]
    show (!false && !(Ieee.single.read x).isInfinity) = _
    by_cases h : x % 2147483648 < 2139095040
    · rw [read_fin Ieee.single x (by rw [s_sw, s_inf]; exact h), decide_eq_true h]; rfl
    · rw [read_inf Ieee.single x (by rw [s_sw, s_inf]; omega) (by decide), decide_eq_false h]; rfl
  · rw [fin_nan hn]
    symm
    rw [decide_eq_false_iff_not]
    intro h
    have := nn_small (x := x) (by omega)
    rw [hn] at this; cases this
theorem finP_nn {a : Nat} (h : fin .f32 a = true) : nn .f32 a = false := by
  cases hn : nn .f32 a
  · rfl
  · rw [fin_nan hn] at h; cases h
theorem leN_key {x c : Nat} (hn : nn .f32 x = false) (hc : c ≤ 2139095040) : leN x c = decide (key FloatKind.f32.format x ≤ (c : Int)) := by
  unfold leN
  rw [ordk hn (nn_small (by omega)), kpos (x := c) (by omega)]
  rcases Int.lt_trichotomy (key FloatKind.f32.format x) (c : Int) with h | h | h
  · rw [icmp_lt h, decide_eq_true (by omega)]; rfl
  · rw [icmp_eq h, decide_eq_true (by omega)]; rfl
  · rw [icmp_gt h, decide_eq_false (by omega)]; rfl
theorem geN_key {x c : Nat} (hn : nn .f32 x = false) (hc : c ≤ 2139095040) : geN x c = decide ((c : Int) ≤ key FloatKind.f32.format x) := by
  unfold geN
  rw [ordk hn (nn_small (by omega)), kpos (x := c) (by omega)]
  rcases Int.lt_trichotomy (key FloatKind.f32.format x) (c : Int) with h | h | h
  · rw [icmp_lt h, decide_eq_false (by omega)]; rfl
  · rw [icmp_eq h, decide_eq_true (by omega)]; rfl
  · rw [icmp_gt h, decide_eq_true (by omega)]; rfl

/-- how a number that is not negative reads -/
theorem over_parts {x : Nat} (hf : fin .f32 x = true) (hg : geN x 0 = true) : ∃ s m i, Ieee.single.read x = .number s m i ∧ -149 ≤ i ∧ (s = true → m = 0) ∧
    (leN x 1065353216 = false → s = false ∧ 8388608 ≤ m ∧ -23 ≤ i ∧ (i = -23 → 8388609 ≤ m)) := by
  have hn := finP_nn hf
  rw [finP_iff] at hf
  have hf := of_decide_eq_true hf
  rw [geN_key hn (by decide)] at hg
  have hg := of_decide_eq_true hg
  refine ⟨_, _, _, read_fin Ieee.single x (by rw [s_sw, s_inf]; exact hf), ?_, ?_, ?_⟩
  · rw [s_lp]; omega
  · rw [s_sw]
    intro hs
    rw [s_key, if_pos hs] at hg
    have h0 : x % 2147483648 = 0 := by omega
    rw [h0]; decide
  · intro hl
    rw [leN_key hn (by decide)] at hl
    have hl := of_decide_eq_false hl
    rw [s_sw, s_lp]
    cases hs : (x / 2147483648 % 2 == 1)
    · rw [s_key, hs] at hl
      simp only [Bool.false_eq_true, if_false] at hl
      unfold mg ex
      rw [s_bin]
      generalize x % 2147483648 = r at *
      refine ⟨rfl, ?_, ?_, ?_⟩
      · rw [if_neg (by omega)]; omega
      · omega
      · intro h
        rw [if_neg (by omega)]; omega
    · rw [s_key, if_pos hs] at hl hg
      omega
theorem signed_nn {s : Bool} {m : Nat} (u : Nat) (h : s = true → m = 0) : Ieee.signed s m u = ((m * 2 ^ u : Nat) : Int) := by
  unfold Ieee.signed
  rw [Nat.shiftLeft_eq]
  cases s
  · rfl
  · rw [h rfl]; simp
theorem wordP (s : Bool) {k : Nat} (h : k ≤ 2139095040) : Ieee.single.word s k % 2147483648 = k := by rw [s_word]; split <;> omega
/-- the sum of two numbers that are not negative -/
theorem add_share {p q : Nat} (hp : fin .f32 p = true) (gp : geN p 0 = true) (hq : fin .f32 q = true) (gq : geN q 0 = true) :
    geN (fop .add .f32 p q) 0 = true ∧ (leN (fop .add .f32 p q) 1065353216 = true → leN p 1065353216 = true ∧ leN q 1065353216 = true) := by
  obtain ⟨s, m, i, ep, bi, zs, op⟩ := over_parts hp gp
  obtain ⟨t, n, j, eq, bj, zt, oq⟩ := over_parts hq gq
  have e : floatBits .add .f32 p q = ((Ieee.single.read p).sum (Ieee.single.read q)).map Ieee.single.write := rfl
  unfold fop
  rw [e, ep, eq]
  simp only [Ieee.Datum.sum, Option.map_some, Option.getD_some, Ieee.Format.write]
  rw [signed_nn _ zs, signed_nn _ zt]
  have bm : -149 ≤ min i j := by omega
  have mi : min i j ≤ i := by omega
  have mj : min i j ≤ j := by omega
  generalize min i j = b at *
  have pa : m * 2 ^ (i - b).toNat ≤ m * 2 ^ (i - b).toNat + n * 2 ^ (j - b).toNat := Nat.le_add_right _ _
  have pb : n * 2 ^ (j - b).toNat ≤ m * 2 ^ (i - b).toNat + n * 2 ^ (j - b).toNat := Nat.le_add_left _ _
  have za : 0 < m → 0 < m * 2 ^ (i - b).toNat := fun h => Nat.mul_pos h (Nat.two_pow_pos _)
  have zb : 0 < n → 0 < n * 2 ^ (j - b).toNat := fun h => Nat.mul_pos h (Nat.two_pow_pos _)
  rw [← Int.natCast_add, Int.natAbs_natCast]
  generalize hA : m * 2 ^ (i - b).toNat = A at *
  generalize hB : n * 2 ^ (j - b).toNat = B at *
  constructor
  · by_cases h0 : ((A + B : Nat) : Int) = 0
    · obtain ⟨k, k1, k2, k3⟩ := near_word (if ((A + B : Nat) : Int) = 0 then s && t else decide (((A + B : Nat) : Int) < 0)) (A + B) b
      have := k3 (by omega)
      subst this
      rw [k2]
      generalize (if ((A + B : Nat) : Int) = 0 then s && t else decide (((A + B : Nat) : Int) < 0)) = d
      cases d <;> decide +kernel
    · rw [if_neg h0, decide_eq_false (by omega)]
      obtain ⟨k, k1, k2, k3⟩ := near_word false (A + B) b
      rw [k2, s_word]
      simp only [Bool.false_eq_true, if_false]
      rw [geN_key (nn_small (by omega)) (by decide), kpos (by omega)]
      exact decide_eq_true (by omega)
  · intro hl
    have key : ∀ (x y : Int), (∃ k, 1065353217 ≤ k ∧ k ≤ 2139095040 ∧ Ieee.single.nearest false (A + B) b = Ieee.single.word false k) → 0 < A + B → False := by
      rintro _ _ ⟨k, k1, k2, k3⟩ h0
      rw [if_neg (by omega), decide_eq_false (by omega), k3, s_word] at hl
      simp only [Bool.false_eq_true, if_false] at hl
      rw [leN_key (nn_small (by omega)) (by decide), kpos (by omega)] at hl
      have := of_decide_eq_true hl
      omega
    constructor
    · cases hc : leN p 1065353216
      · obtain ⟨_, h1, h2, h3⟩ := op hc
        exact (key 0 0 (near_over bm mi h2 h1 h3 (by omega)) (by have := za (by omega); omega)).elim
      · rfl
    · cases hc : leN q 1065353216
      · obtain ⟨_, h1, h2, h3⟩ := oq hc
        exact (key 0 0 (near_over bm mj h2 h1 h3 (by omega)) (by have := zb (by omega); omega)).elim
      · rfl
theorem fin_shr {x : Nat} (h : shr x = true) : fin .f32 x = true := by
  unfold shr at h
  rw [Bool.and_eq_true] at h
  obtain ⟨hg, hl⟩ := h
  have hn : nn .f32 x = false := by
    cases hn : nn .f32 x
    · rfl
    · unfold geN at hg
      rw [ord_key, hn] at hg
      exact absurd hg (by simp)
  rw [geN_key hn (by decide)] at hg
  rw [leN_key hn (by decide)] at hl
  have hg := of_decide_eq_true hg
  have hl := of_decide_eq_true hl
  rw [finP_iff]
  rw [s_key] at hg hl
  refine decide_eq_true ?_
  split at hg <;> rename_i hs
  · omega
  · rw [if_neg hs] at hl; omega
/-- the guards of both sides are the same -/
theorem share_eq (p q : Nat) : (lst p && lst q && leN (fop .add .f32 p q) 1065353216) = (shr p && shr q && shr (fop .add .f32 p q)) := by
  rw [Bool.eq_iff_iff]
  constructor
  · intro h
    unfold lst at h
    simp only [Bool.and_eq_true] at h
    obtain ⟨⟨⟨fp, gp⟩, fq, gq⟩, hl⟩ := h
    obtain ⟨h1, h2⟩ := add_share fp gp fq gq
    obtain ⟨h3, h4⟩ := h2 hl
    unfold shr
    rw [gp, gq, h1, hl, h3, h4]; rfl
  · intro h
    simp only [Bool.and_eq_true] at h
    obtain ⟨⟨hp, hq⟩, hs⟩ := h
    unfold lst
    rw [fin_shr hp, fin_shr hq]
    unfold shr at hp hq hs
    simp only [Bool.and_eq_true] at hp hq hs
    rw [hp.1, hq.1, hs.2]; rfl
theorem sub_fin2 {i k : Nat} (h : fin .f32 (fop .sub .f32 i k) = true) : fin .f32 i = true ∧ fin .f32 k = true := by
  have e : ∀ x y, floatBits .sub .f32 x y = ((FloatKind.f32.format.read x).sum (FloatKind.f32.format.read y).opposite).map FloatKind.f32.format.write := fun _ _ => rfl
  have key : ∀ i k, fin .f32 i = false → fin .f32 (fop .sub .f32 i k) = false ∧ fin .f32 (fop .sub .f32 k i) = false := by
    intro i k hi
    cases hn : nn .f32 i
    · obtain ⟨s, hs⟩ := inf_of hi hn
      have e1 : FloatKind.f32.format.read i = .infinity s := hs
      unfold fop
      rw [e i k, e k i, e1]
      cases hk : FloatKind.f32.format.read k with
      | number t m q => exact ⟨by simp [Ieee.Datum.sum, Ieee.Datum.opposite]; cases s <;> decide +kernel, by simp [Ieee.Datum.sum, Ieee.Datum.opposite]; cases s <;> decide +kernel⟩
      | infinity t => cases s <;> cases t <;> exact ⟨by decide +kernel, by decide +kernel⟩
      | nan t p => exact ⟨by simp [Ieee.Datum.sum, Ieee.Datum.opposite]; decide +kernel, by simp [Ieee.Datum.sum]; decide +kernel⟩
    · unfold fop
      rw [floatBits_nan_left hn, floatBits_nan_right hn]
      exact ⟨by decide +kernel, by decide +kernel⟩
  constructor
  · cases hi : fin .f32 i
    · rw [(key i k hi).1] at h; cases h
    · rfl
  · cases hk : fin .f32 k
    · rw [(key k i hk).2] at h; cases h
    · rfl
end Go.Proofs.Ytabdinmodopadab
