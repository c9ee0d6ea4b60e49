/- Finite numbers, subnormal numbers, absolute values, and the masks by which bits are told. -/
import Derived.Test.YtkbdidpodcclfaaOrd
namespace Go.Proofs.Ytkbdidpodcclfaa

/-- a number that is finite -/
def fin (k : FloatKind) (b : Nat) : Bool := !nn k b && !(k.decode b).isInfinity

theorem fin_nan {k : FloatKind} {b : Nat} (h : nn k b = true) : fin k b = false := by simp [fin, h]
theorem fin_cn (k : FloatKind) (b : Nat) : fin k (cn k b) = fin k b := by
  cases h : nn k b
  · rw [cn_of_num h]
  · rw [cn_of_nan h, fin_nan h, fin_nan (nn_qn k)]

theorem fin_number {k : FloatKind} {b : Nat} (h : fin k b = true) : ∃ s m e, k.format.read b = .number s m e := by
  unfold fin nn FloatKind.decode at h
  cases e : k.format.read b with
  | number s m i => exact ⟨s, m, i, rfl⟩
  | infinity s => rw [e] at h; simp [Ieee.Datum.isInfinity] at h
  | nan s t => rw [e] at h; simp [Ieee.Datum.isNaN] at h

theorem inf_of {k : FloatKind} {b : Nat} (h : fin k b = false) (hn : nn k b = false) : ∃ s, k.format.read b = .infinity s := by
  unfold fin at h
  rw [hn] at h
  unfold nn FloatKind.decode at hn
  unfold FloatKind.decode at h
  cases e : k.format.read b with
  | number s m i => rw [e] at h; simp [Ieee.Datum.isInfinity] at h
  | infinity s => exact ⟨s, rfl⟩
  | nan s t => rw [e] at hn; simp [Ieee.Datum.isNaN] at hn

theorem sub_self_fin {k : FloatKind} {b : Nat} (h : fin k b = true) : floatBits .sub k b b = some 0 := by
  obtain ⟨s, m, e, hr⟩ := fin_number h
  unfold floatBits Ieee.Format.sub
  simp only [hr, Ieee.Datum.opposite, Ieee.Datum.sum]
  have hz : Ieee.signed s m (e - min e e).toNat + Ieee.signed (!s) m (e - min e e).toNat = 0 := by
    unfold Ieee.signed; cases s <;> simp <;> omega
  rw [hz]
  cases s <;> cases k <;> rfl

theorem sub_self_inf {k : FloatKind} {b : Nat} (h : fin k b = false) : floatBits .sub k b b = none := by
  cases hn : nn k b
  · obtain ⟨s, hr⟩ := inf_of h hn
    unfold floatBits Ieee.Format.sub
    simp only [hr, Ieee.Datum.opposite, Ieee.Datum.sum]
    cases s <;> rfl
  · exact floatBits_nan_left hn

theorem zero_self (k : FloatKind) : k.format.order 0 0 = some .eq := by cases k <;> rfl
theorem qn_order (k : FloatKind) (z : Nat) : k.format.order (qn k) z = none := by
  obtain ⟨s, t, e⟩ := decode_nan (nn_qn k)
  cases ha : k.format.read z <;> simp [Ieee.Format.order, e, ha, Ieee.Datum.order]

/-- what is taken from itself is zero for finite numbers alone -/
theorem sub_zero {k : FloatKind} {a r : Nat} (h : FR .sub k a a r) : (k.format.order r 0 == some .eq) = fin k a := by
  rw [← order_cn k r 0, h.1, fop, floatBits_cn]
  have h0 : cn k 0 = 0 := by cases k <;> rfl
  cases hf : fin k a
  · rw [sub_self_inf hf]
    show (k.format.order (qn k) (cn k 0) == some .eq) = false
    rw [qn_order]; rfl
  · rw [sub_self_fin hf]
    show (k.format.order 0 (cn k 0) == some .eq) = true
    rw [h0, zero_self]; rfl

theorem fin_write_inf {d : FloatKind} (s : Bool) : fin d (d.encode (.infinity s)) = false := by cases d <;> cases s <;> rfl

/-- a 32-bit number made a 64-bit one is finite as it was -/
theorem fin_up {a r : Nat} (h : UR a r) : fin .f64 r = fin .f32 a := by
  rw [← fin_cn .f64 r, h.1, ← fin_cn .f32 a]
  generalize hc : cn .f32 a = c
  cases hn : nn .f32 c
  · obtain ⟨u, hu⟩ := up_some hn
    rw [cvu, hu]
    show fin .f64 u = _
    unfold floatToFloatBits at hu
    rw [if_neg (by decide)] at hu
    split at hu
    · cases hu
    · rename_i s he
      cases hu
      rw [fin_write_inf]
      symm
      unfold fin
      rw [he]; simp [Ieee.Datum.isInfinity]
    · rename_i s m e he
      split at hu
      · cases hu
      · rename_i hi
        cases hu
        have e1 : nn .f64 (FloatKind.f64.encode (.number s m e)) = false := read_write Ieee.double (.number s m e) rfl
        have e2 : nn .f32 c = false := hn
        unfold fin
        rw [e1, e2, he]
        simp only [Bool.not_false, Bool.true_and]
        rw [show (FloatKind.f64.decode (FloatKind.f64.encode (.number s m e))).isInfinity = false from by simpa using hi]
        rfl
  · rw [cvu, ftf_nan (by decide) hn, fin_nan hn]
    rfl

theorem nn_up {a r : Nat} (h : UR a r) : nn .f64 r = nn .f32 a := by
  rw [← nn_cn .f64 r, h.1, ← nn_cn .f32 a]
  generalize cn .f32 a = c
  cases hn : nn .f32 c
  · obtain ⟨u, hu⟩ := up_some hn
    rw [cvu, hu]
    exact ftf_num (by decide) hu
  · rw [cvu, ftf_nan (by decide) hn]; rfl

theorem wf32 {a : Nat} (h : (Lit.float .f32 a).wf = true) : a < 4294967296 := by simpa [Lit.wf] using h
theorem wf64 {a : Nat} (h : (Lit.float .f64 a).wf = true) : a < 18446744073709551616 := by simpa [Lit.wf] using h

theorem single_sw : FloatKind.f32.format.signWeight = 2147483648 := by decide
theorem double_sw : FloatKind.f64.format.signWeight = 9223372036854775808 := by decide
theorem single_inf : FloatKind.f32.format.infRung = 2139095040 := by decide

/-- which bits are a not-a-number -/
theorem nn32 (a : Nat) : nn .f32 a = decide (2139095040 < a % 2147483648) := by
  have := nn_iff .f32 a
  unfold notNan at this
  rw [single_sw, single_inf] at this
  cases h : nn .f32 a
  · have := this.1 h; symm; simp; omega
  · symm; simp
    by_cases hx : a % 2147483648 ≤ 2139095040
    · rw [this.2 hx] at h; cases h
    · omega
theorem nn64 (a : Nat) : nn .f64 a = decide (9218868437227405312 < a % 9223372036854775808) := by
  have := nn_iff .f64 a
  unfold notNan at this
  rw [double_sw, show FloatKind.f64.format.infRung = 9218868437227405312 from by decide] at this
  cases h : nn .f64 a
  · have := this.1 h; symm; simp; omega
  · symm; simp
    by_cases hx : a % 9223372036854775808 ≤ 9218868437227405312
    · rw [this.2 hx] at h; cases h
    · omega

theorem fin64 (a : Nat) : fin .f64 a = decide (a % 9223372036854775808 < 9218868437227405312) := by
  have h2 := read_fin FloatKind.f64.format a
  have h3 := read_inf FloatKind.f64.format a
  rw [double_sw, show FloatKind.f64.format.infRung = 9218868437227405312 from by decide] at h2 h3
  unfold fin
  rw [nn64]
  by_cases h : a % 9223372036854775808 < 9218868437227405312
  · unfold FloatKind.decode
    rw [h2 h]
    simp [Ieee.Datum.isInfinity, h]; omega
  · by_cases h' : a % 9223372036854775808 = 9218868437227405312
    · unfold FloatKind.decode
      rw [h3 h' (by decide)]
      simp [Ieee.Datum.isInfinity, h]
    · simp [h]; omega

theorem i64_and_nat (a b : Nat) (ha : a < 9223372036854775808) (hb : b < 9223372036854775808) : bits .and .i64 (a : Int) (b : Int) = ((a &&& b : Nat) : Int) := by
  have hle : a &&& b ≤ a := Nat.and_le_left
  show IntKind.i64.wrap ((BitVec.ofInt 64 (a : Int) &&& BitVec.ofInt 64 (b : Int)).toNat : Int) = _
  rw [BitVec.toNat_and, ofInt_u64 a (by omega), ofInt_u64 b (by omega)]
  exact IntWalk.i64_in _ (by omega)

/-- the exponent's bits alone -/
theorem exp_mask (a : Nat) (h : a < 4294967296) : bits .and .i64 (a : Int) 2139095040 = ((a % 2147483648 / 8388608 * 8388608 : Nat) : Int) := by
  rw [show (2139095040 : Int) = ((2139095040 : Nat) : Int) from rfl, i64_and_nat a _ (by omega) (by decide)]
  congr 1
  have e : a &&& 2139095040 = a % 2147483648 / 8388608 * 8388608 := by
    apply Nat.eq_of_testBit_eq
    intro i
    rw [Nat.testBit_and, show (8388608 : Nat) = 2 ^ 23 from rfl, Nat.testBit_mul_two_pow, Nat.testBit_div_two_pow, show (2147483648 : Nat) = 2 ^ 31 from rfl, Nat.testBit_mod_two_pow,
      show (2139095040 : Nat) = (2 ^ 8 - 1) * 2 ^ 23 from rfl, Nat.testBit_mul_two_pow, Nat.testBit_two_pow_sub_one]
    by_cases h1 : 23 ≤ i
    · simp [h1]
      by_cases h2 : i < 31
      · simp [h2, show i - 23 < 8 by omega]
      · simp [h2, show ¬ i - 23 < 8 by omega]
    · simp [h1]
  exact e

theorem sign_mask (a : Nat) (h : a < 4294967296) : bits .and .i64 (a : Int) 2147483648 = ((a / 2147483648 * 2147483648 : Nat) : Int) := by
  rw [show (2147483648 : Int) = ((2147483648 : Nat) : Int) from rfl, i64_and_nat a _ (by omega) (by decide)]
  congr 1
  have e : a &&& 2147483648 = a / 2147483648 * 2147483648 := by
    apply Nat.eq_of_testBit_eq
    intro i
    rw [Nat.testBit_and, show (2147483648 : Nat) = 2 ^ 31 from rfl, Nat.testBit_mul_two_pow, Nat.testBit_div_two_pow, Nat.testBit_two_pow]
    by_cases h1 : 31 = i
    · subst h1; simp
    · by_cases h2 : 31 ≤ i
      · simp [h1, h2, show i - 31 + 31 = i by omega]
        exact Nat.testBit_lt_two_pow (Nat.lt_of_lt_of_le (show a < 2 ^ 32 from h) (Nat.pow_le_pow_right (by decide) (by omega)))
      · simp [h1, h2]
  exact e

theorem abs_bits (r : Nat) (h : r < 18446744073709551616) : (bits .andNot .u64 (r : Int) 9223372036854775808).toNat = r % 9223372036854775808 := by
  have := u64_andNot_nat r 9223372036854775808 h (by decide)
  rw [show (9223372036854775808 : Int) = ((9223372036854775808 : Nat) : Int) from rfl, this, Int.toNat_natCast]
  exact Nat.and_two_pow_sub_one_eq_mod r 63

theorem sign_and (r : Nat) (h : r < 18446744073709551616) : r &&& 9223372036854775808 = r / 9223372036854775808 * 9223372036854775808 := by
  apply Nat.eq_of_testBit_eq
  intro i
  rw [Nat.testBit_and, show (9223372036854775808 : Nat) = 2 ^ 63 from rfl, Nat.testBit_mul_two_pow, Nat.testBit_div_two_pow, Nat.testBit_two_pow]
  by_cases h1 : 63 = i
  · subst h1; simp
  · by_cases h2 : 63 ≤ i
    · simp [h1, h2, show i - 63 + 63 = i by omega]
      exact Nat.testBit_lt_two_pow (Nat.lt_of_lt_of_le (show r < 2 ^ 64 from h) (Nat.pow_le_pow_right (by decide) (by omega)))
    · simp [h1, h2]

theorem copysign_bits (r : Nat) (h : r < 18446744073709551616) : (bits BinOp.or IntKind.u64 (bits BinOp.andNot IntKind.u64 0 9223372036854775808) (bits BinOp.and IntKind.u64 (r : Int) 9223372036854775808)).toNat = r / 9223372036854775808 * 9223372036854775808 := by
  have h1 := u64_andNot_nat 0 9223372036854775808 (by decide) (by decide)
  have h2 := u64_and_nat r 9223372036854775808 h (by decide)
  rw [show (9223372036854775808 : Int) = ((9223372036854775808 : Nat) : Int) from rfl, show (0 : Int) = ((0 : Nat) : Int) from rfl, h1, h2, Nat.zero_and, sign_and r h]
  rw [u64_or_nat 0 _ (by decide) (by omega), Nat.zero_or, Int.toNat_natCast]

theorem cmp_gt (x y : Int) : (some (compare x y) == some Ordering.gt) = decide (y < x) := by
  simp only [compare, compareOfLessAndEq]
  by_cases h : x < y
  · rw [if_pos h, decide_eq_false (by omega)]; rfl
  · rw [if_neg h]
    by_cases h' : x = y
    · rw [if_pos h', decide_eq_false (by omega)]; rfl
    · rw [if_neg h', decide_eq_true (by omega)]; rfl
theorem cmp_lt (x y : Int) : (some (compare x y) == some Ordering.lt) = decide (x < y) := by
  simp only [compare, compareOfLessAndEq]
  by_cases h : x < y
  · rw [if_pos h, decide_eq_true h]; rfl
  · rw [if_neg h, decide_eq_false h]
    by_cases h' : x = y
    · rw [if_pos h']; rfl
    · rw [if_neg h']; rfl
theorem cmp_eq (x y : Int) : (some (compare x y) == some Ordering.eq) = decide (x = y) := by
  simp only [compare, compareOfLessAndEq]
  by_cases h : x < y
  · rw [if_pos h, decide_eq_false (by omega)]; rfl
  · rw [if_neg h]
    by_cases h' : x = y
    · rw [if_pos h', decide_eq_true h']; rfl
    · rw [if_neg h', decide_eq_false h']; rfl

theorem key64_pos (x : Nat) (h : x < 9223372036854775808) : key FloatKind.f64.format x = x := by
  unfold key
  rw [double_sw, Nat.div_eq_of_lt h, Nat.mod_eq_of_lt h]
  rfl

/-- greater than the greatest finite number: the infinity alone -/
theorem abs_gt (r : Nat) (h : nn .f64 r = false) : (FloatKind.f64.format.order (r % 9223372036854775808) 9218868437227405311 == some .gt) = !fin .f64 r := by
  rw [nn64] at h
  have h' := of_decide_eq_false h
  rw [ord_key, nn64, nn64, fin64, Nat.mod_mod, decide_eq_false h', decide_eq_false (by decide)]
  simp only [Bool.or_false, Bool.false_eq_true, if_false]
  rw [cmp_gt, key64_pos _ (Nat.mod_lt _ (by decide)), key64_pos _ (by decide)]
  rw [← decide_not]
  exact decide_eq_decide.2 (by omega)
end Go.Proofs.Ytkbdidpodcclfaa
