/- Halves of 32-bit numbers: what is divided by 2 is what is multiplied by one half. -/
import Derived.Test.YtabdinmodopadaaBd
namespace Go.Proofs.Ytabdinmodopadaa
open Go

theorem cut_scale (neg : Bool) (n k d : Nat) (hn : n ≠ 0) : Ieee.Toward.even.cut neg (n * 2 ^ k) (d + k) = Ieee.Toward.even.cut neg n d := by
  unfold Ieee.Toward.cut
  have hl : (n * 2 ^ k).log2 = n.log2 + k := log2_mul_pow n k hn
  have hg : 1 <<< min (d + k) ((n * 2 ^ k).log2 + 2) = (1 <<< min d (n.log2 + 2)) * 2 ^ k := by
    rw [hl, Nat.one_shiftLeft, Nat.one_shiftLeft, show min (d + k) (n.log2 + k + 2) = min d (n.log2 + 2) + k by omega, Nat.pow_add]
  simp only [hg]
  generalize (1 <<< min d (n.log2 + 2)) = g
  have hk : 0 < 2 ^ k := Nat.two_pow_pos k
  generalize 2 ^ k = K at *
  rw [Nat.mul_div_mul_right _ _ hk, Nat.mul_mod_mul_right]
  have e1 : (2 * (n % g * K)) = (2 * (n % g)) * K := by rw [Nat.mul_assoc]
  rw [e1]
  have e2 : decide (g * K < 2 * (n % g) * K) = decide (g < 2 * (n % g)) := by
    rw [decide_eq_decide]
    exact Nat.mul_lt_mul_right hk
  have e3 : (g * K == 2 * (n % g) * K) = (g == 2 * (n % g)) := by
    rw [Bool.eq_iff_iff]
    simp only [beq_iff_eq]
    exact ⟨fun h => Nat.eq_of_mul_eq_mul_right hk h, fun h => congrArg (· * K) h⟩
  rw [e2, e3]

theorem nearest_scale (f : Ieee.Format) (neg : Bool) (m k : Nat) (p : Int) (hm : m ≠ 0) : f.nearest neg (m * 2 ^ k) (p - k) = f.nearest neg m p := by
  unfold Ieee.Format.nearest
  have h0 : m * 2 ^ k ≠ 0 := Nat.mul_ne_zero hm (Nat.ne_of_gt (Nat.two_pow_pos k))
  rw [if_neg h0, if_neg hm]
  simp only [log2_mul_pow m k hm]
  have hL : max (p - k + ((m.log2 + k : Nat) : Int) - f.fractionBits) f.leastPlace = max (p + (m.log2 : Int) - f.fractionBits) f.leastPlace := by
    congr 1; omega
  rw [hL]
  generalize max (p + (m.log2 : Int) - f.fractionBits) f.leastPlace = L
  have hc : Ieee.Toward.even.cut neg ((m * 2 ^ k) <<< (p - k - L).toNat) (L - (p - k)).toNat = Ieee.Toward.even.cut neg (m <<< (p - L).toNat) (L - p).toNat := by
    rw [Nat.shiftLeft_eq, Nat.shiftLeft_eq]
    by_cases h1 : L ≤ p - k
    · have e1 : (p - L).toNat = k + (p - k - L).toNat := by omega
      have e2 : (L - (p - k)).toNat = 0 := by omega
      have e3 : (L - p).toNat = 0 := by omega
      rw [e1, e2, e3, Nat.pow_add, Nat.mul_assoc]
    · by_cases h2 : L ≤ p
      · have e1 : (p - k - L).toNat = 0 := by omega
        have e3 : (L - p).toNat = 0 := by omega
        have e4 : 2 ^ k = 2 ^ (p - L).toNat * 2 ^ (L - (p - k)).toNat := by
          rw [← Nat.pow_add]; congr 1; omega
        rw [e1, e3, Nat.pow_zero, Nat.mul_one, e4, ← Nat.mul_assoc]
        have := cut_scale neg (m * 2 ^ (p - L).toNat) (L - (p - k)).toNat 0 (Nat.mul_ne_zero hm (Nat.ne_of_gt (Nat.two_pow_pos _)))
        rw [Nat.zero_add] at this
        exact this
      · have e1 : (p - k - L).toNat = 0 := by omega
        have e2 : (p - L).toNat = 0 := by omega
        have e3 : (L - (p - k)).toNat = (L - p).toNat + k := by omega
        rw [e1, e2, e3, Nat.pow_zero, Nat.mul_one, Nat.mul_one]
        exact cut_scale neg m k _ hm
  rw [hc]

theorem two32_read : Ieee.single.read 1073741824 = .number false 8388608 (-22) := by decide +kernel
theorem half32_read : Ieee.single.read 1056964608 = .number false 8388608 (-24) := by decide +kernel

theorem half_same (x : Nat) : floatBits .quo .f32 x 1073741824 = floatBits .mul .f32 1056964608 x := by
  show Ieee.single.div x 1073741824 = Ieee.single.mul 1056964608 x
  unfold Ieee.Format.div Ieee.Format.mul
  rw [two32_read, half32_read]
  cases h : Ieee.single.read x with
  | nan s t => rfl
  | infinity s => cases s <;> rfl
  | number s m e =>
    obtain ⟨hm, _, _⟩ := read_single_bounds h
    simp only [Ieee.Datum.quotient, Ieee.Datum.product]
    rw [if_neg (by decide)]
    simp only [Option.map_some, Option.some.injEq]
    show Ieee.single.nearest _ _ _ = Ieee.single.nearest _ _ _
    by_cases h0 : m = 0
    · subst h0
      rw [Nat.zero_shiftLeft, Nat.zero_div, Nat.zero_mod, Nat.mul_zero]
      unfold Ieee.Format.nearest
      simp
    · have hl : m.log2 < 24 := (Nat.log2_lt h0).2 hm
      have h23 : Nat.log2 8388608 = 23 := by decide +kernel
      have hf : Ieee.single.fractionBits = 23 := by decide
      rw [h23, hf]
      have e1 : 2 * (m <<< (23 + 2 + 23 - m.log2) / 8388608) + (m <<< (23 + 2 + 23 - m.log2) % 8388608 != 0).toNat = m * 2 ^ (26 - m.log2) := by
        rw [Nat.shiftLeft_eq, show 23 + 2 + 23 - m.log2 = (25 - m.log2) + 23 by omega, Nat.pow_add, ← Nat.mul_assoc, show (8388608 : Nat) = 2 ^ 23 from rfl]
        rw [Nat.mul_div_cancel _ (Nat.two_pow_pos 23), Nat.mul_mod_left, show 26 - m.log2 = (25 - m.log2) + 1 by omega, Nat.pow_succ]
        simp
        rw [Nat.mul_comm 2, Nat.mul_assoc]
      rw [e1]
      have e2 : e - -22 - ((23 + 2 + 23 - m.log2 : Nat) : Int) - 1 = (e - 1) - ((26 - m.log2 : Nat) : Int) := by omega
      have e3 : (8388608 : Nat) * m = m * 2 ^ 23 := by rw [Nat.mul_comm]
      have e4 : (-24 : Int) + e = (e - 1) - ((23 : Nat) : Int) := by omega
      rw [e2, e3, e4, nearest_scale _ _ _ _ _ h0, nearest_scale _ _ _ _ _ h0]
      simp

/-- a half, told as the program tells it, and as the specification does -/
theorem fop_half (x : Nat) : fop .quo .f32 x (cn .f32 1073741824) = fop .mul .f32 (cn .f32 1056964608) x := by
  have e1 : cn .f32 1073741824 = 1073741824 := by decide
  have e2 : cn .f32 1056964608 = 1056964608 := by decide
  unfold fop
  rw [e1, e2, half_same]
end Go.Proofs.Ytabdinmodopadaa
