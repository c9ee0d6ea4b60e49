/- Products and quotients of numbers that are not negative: their bits. -/
import Derived.Test.YtabdinmodopadabKp
import Derived.Test.YtabdinmodopadabSnP
namespace Go.Proofs.Ytabdinmodopadab
open Go.RowKit
set_option linter.unusedVariables false

theorem near_word (s : Bool) (m : Nat) (e : Int) : ∃ k, k ≤ 2139095040 ∧ Ieee.single.nearest s m e = Ieee.single.word s k ∧ (m = 0 → k = 0) := by
  unfold Ieee.Format.nearest
  by_cases h : m = 0
  · rw [if_pos h]
    exact ⟨0, by omega, rfl, fun _ => rfl⟩
  · rw [if_neg h, s_inf]
    exact ⟨_, Nat.min_le_right _ _, rfl, fun h' => absurd h' h⟩

theorem nn_fin32 {x : Nat} (h : fin .f32 x = true) : nn .f32 x = false := by
  cases hn : nn .f32 x
  · rfl
  · rw [fin_nan hn] at h; cases h
theorem fin_mod {x : Nat} (h : fin .f32 x = true) : x % 2147483648 < 2139095040 := by
  have hn := nn_fin32 h
  have hb := nn_big hn
  by_cases g : x % 2147483648 < 2139095040
  · exact g
  · exfalso
    unfold fin at h
    rw [hn] at h
    have hd : FloatKind.f32.decode x = .infinity (x / Ieee.single.signWeight % 2 == 1) := read_inf Ieee.single x (by rw [s_sw, s_inf]; omega) (by decide)
    rw [hd] at h
    cases h
/-- a finite number that is not negative -/
theorem ge_parts {x : Nat} (hf : fin .f32 x = true) (hg : geN x 0 = true) : ∃ s m i, Ieee.single.read x = .number s m i ∧ (s = true → m = 0) := by
  have hn := nn_fin32 hf
  have hm := fin_mod hf
  refine ⟨_, _, _, read_fin Ieee.single x (by rw [s_sw, s_inf]; exact hm), ?_⟩
  rw [s_sw]
  intro hs
  unfold geN at hg
  rw [ordk hn (nn_small (x := 0) (by omega)), s_key x, if_pos hs, kpos (x := 0) (by omega)] at hg
  have h0 : x % 2147483648 = 0 := by
    rcases Int.lt_trichotomy (-((x % 2147483648 : Nat) : Int)) ((0 : Nat) : Int) with h | h | h
    · rw [icmp_lt h] at hg; exact absurd hg (by decide)
    · omega
    · omega
  rw [h0]; decide
/-- bits of a number that is not negative: from +0 to the infinity, or -0 -/
def Nng (x : Nat) : Prop := x ≤ 2139095040 ∨ x = 2147483648
theorem word_Nng {s : Bool} {k : Nat} (hk : k ≤ 2139095040) (h : s = true → k = 0) : Nng (Ieee.single.word s k) := by
  rw [s_word]
  cases s
  · exact .inl hk
  · rw [h rfl]; exact .inr rfl
theorem mul_Nng {x y : Nat} (hx : fin .f32 x = true) (gx : geN x 0 = true) (hy : fin .f32 y = true) (gy : geN y 0 = true) : Nng (fop .mul .f32 x y) := by
  obtain ⟨s, m, i, hm, hs⟩ := ge_parts hx gx
  obtain ⟨t, n, j, hn, ht⟩ := ge_parts hy gy
  have e : floatBits .mul .f32 x y = some (Ieee.single.nearest (s ^^ t) (m * n) (i + j)) := by
    show Ieee.single.mul x y = _
    unfold Ieee.Format.mul
    rw [hm, hn]
    rfl
  rw [fop, e, Option.getD_some]
  obtain ⟨k, k1, k2, k3⟩ := near_word (s ^^ t) (m * n) (i + j)
  rw [k2]
  refine word_Nng k1 (fun h => k3 ?_)
  cases s
  · cases t
    · cases h
    · rw [ht rfl, Nat.mul_zero]
  · rw [hs rfl, Nat.zero_mul]
theorem pos_nz {y : Nat} (h : pos y = true) : fin .f32 y = true ∧ geN y 0 = true ∧ ∃ n j, Ieee.single.read y = .number false n j ∧ n ≠ 0 := by
  unfold pos at h
  rw [Bool.and_eq_true] at h
  obtain ⟨hf, hg⟩ := h
  refine ⟨hf, gt0_ge hg, ?_⟩
  have hn := nn_fin32 hf
  have hm := fin_mod hf
  unfold gt0 at hg
  rw [ordk hn (nn_small (x := 0) (by omega)), s_key y, kpos (x := 0) (by omega)] at hg
  have hr := read_fin Ieee.single y (by rw [s_sw, s_inf]; exact hm)
  rw [s_sw] at hr
  cases hs : (y / 2147483648 % 2 == 1)
  · rw [hs] at hg hr
    simp only [Bool.false_eq_true, if_false] at hg
    refine ⟨_, _, hr, ?_⟩
    have hpos : 0 < y % 2147483648 := by
      rcases Int.lt_trichotomy (((y % 2147483648 : Nat) : Int)) ((0 : Nat) : Int) with h | h | h
      · omega
      · rw [icmp_eq h] at hg; exact absurd hg (by decide)
      · omega
    unfold mg
    rw [show Ieee.single.binade = 8388608 from s_bin]
    split <;> omega
  · rw [hs] at hg
    simp only [if_true] at hg
    rcases Int.lt_trichotomy (-((y % 2147483648 : Nat) : Int)) ((0 : Nat) : Int) with h | h | h
    · rw [icmp_lt h] at hg; exact absurd hg (by decide)
    · rw [icmp_eq h] at hg; exact absurd hg (by decide)
    · omega
theorem quo_Nng {x y : Nat} (hx : fin .f32 x = true) (gx : geN x 0 = true) (hy : pos y = true) : Nng (fop .quo .f32 x y) := by
  obtain ⟨s, m, i, hm, hs⟩ := ge_parts hx gx
  obtain ⟨_, _, n, j, hn, hn0⟩ := pos_nz hy
  have e : floatBits .quo .f32 x y = some (Ieee.single.nearest (s ^^ false) (2 * (m <<< (25 + n.log2 - m.log2) / n) + (m <<< (25 + n.log2 - m.log2) % n != 0).toNat) (i - j - (25 + n.log2 - m.log2 : Nat) - 1)) := by
    show Ieee.single.div x y = _
    unfold Ieee.Format.div
    rw [hm, hn]
    simp only [Ieee.Datum.quotient]
    rw [if_neg hn0]
    rfl
  rw [fop, e, Option.getD_some]
  have hz : m = 0 → (2 * (m <<< (25 + n.log2 - m.log2) / n) + (m <<< (25 + n.log2 - m.log2) % n != 0).toNat) = 0 := by
    intro h; subst h; simp
  generalize (2 * (m <<< (25 + n.log2 - m.log2) / n) + (m <<< (25 + n.log2 - m.log2) % n != 0).toNat) = M at *
  generalize (i - j - (25 + n.log2 - m.log2 : Nat) - 1) = E at *
  obtain ⟨k, k1, k2, k3⟩ := near_word (s ^^ false) M E
  rw [k2]
  refine word_Nng k1 (fun h => k3 (hz (hs ?_)))
  cases s
  · cases h
  · rfl
theorem Nng_num {x : Nat} (h : Nng x) : nn .f32 x = false := by
  rcases h with h | h
  · exact nn_small (by omega)
  · subst h; decide +kernel
theorem Nng_is {p x : Nat} (h : Nng x) (e : cn .f32 p = x) : p = x := by
  cases hn : nn .f32 p
  · rw [cn_of_num hn] at e; exact e
  · rw [← nn_cn, e, Nng_num h] at hn; cases hn
theorem Nng_neg {x : Nat} (h : Nng x) : Op.negFloat .f32 x = 0 ∨ (2147483648 ≤ Op.negFloat .f32 x ∧ Op.negFloat .f32 x ≤ 4286578688) := by
  have e := neg_bits (q := x) (by rcases h with h | h <;> omega)
  rw [e]
  rcases h with h | h
  · rw [if_pos (by omega)]; exact .inr ⟨by omega, by omega⟩
  · subst h; exact .inl (by decide)

end Go.Proofs.Ytabdinmodopadab
