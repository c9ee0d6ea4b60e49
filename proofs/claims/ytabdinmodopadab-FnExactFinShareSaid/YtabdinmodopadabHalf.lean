/- Halving and doubling are exact: they take off, or put on, one binade. Bounds of sums, products and quotients. -/
import Derived.Test.YtabdinmodopadabBd
namespace Go.Proofs.Ytabdinmodopadab

theorem FR_val {op : BinOp} {k : FloatKind} {m n r v : Nat} (h : FR op k m n r) (hv : floatBits op k m n = some v) : r = v := by
  have h1 := h.1
  rw [fop, floatBits_cn, hv] at h1
  change cn k r = v at h1
  have hn := floatBits_num hv
  rw [← h1, nn_cn] at hn
  rw [← h1, cn_of_num hn]

theorem pr0 (r : Nat) (h : r < 9218868437227405312) : r % Ieee.double.signWeight = r := by
  have hsw : Ieee.double.signWeight = 9223372036854775808 := double_sw
  rw [hsw]
  exact Nat.mod_eq_of_lt (Nat.lt_trans h (by decide))
theorem pr1 (r : Nat) (h : r < 9218868437227405312) : (r / Ieee.double.signWeight % 2 == 1) = false := by
  have hsw : Ieee.double.signWeight = 9223372036854775808 := double_sw
  rw [hsw, Nat.div_eq_of_lt (Nat.lt_trans h (by decide))]
  rfl
theorem pos_read (r : Nat) (h : r < 9218868437227405312) : Ieee.double.read r = .number false (mg Ieee.double r) (-1074 + (r / 4503599627370496 - 1 : Nat)) := by
  have e := read_fin Ieee.double r (by rw [pr0 r h, double_inf]; exact h)
  rw [pr0 r h, pr1 r h, double_least] at e
  rw [e, ex, double_binade]

theorem pos_mg (r : Nat) (h : 4503599627370496 ≤ r) : mg Ieee.double r = 4503599627370496 + r % 4503599627370496 := by
  unfold mg
  rw [double_binade, if_neg (by omega)]

theorem log2_mg (r : Nat) (h : 4503599627370496 ≤ r) : (mg Ieee.double r).log2 = 52 := by
  rw [pos_mg r h]
  exact (Nat.log2_eq_iff (by omega)).2 ⟨by omega, by omega⟩

theorem two_read : Ieee.double.read 4611686018427387904 = .number false 4503599627370496 (-51) := by decide +kernel
theorem one_read : Ieee.double.read 4607182418800017408 = .number false 4503599627370496 (-52) := by decide +kernel

theorem cut_exact (m d : Nat) (hd : d ≤ m.log2 + 2) (h : m % 2 ^ d = 0) : Ieee.Toward.even.cut false m d = m / 2 ^ d := by
  unfold Ieee.Toward.cut
  simp only [Nat.one_shiftLeft, Nat.min_eq_left hd, h]
  simp

theorem half_exact (r : Nat) (h1 : 9007199254740992 ≤ r) (h2 : r < 9218868437227405312) : floatBits .quo .f64 r 4611686018427387904 = some (r - 4503599627370496) := by
  show Ieee.double.div r 4611686018427387904 = _
  unfold Ieee.Format.div
  rw [pos_read r h2, two_read]
  have hl := log2_mg r (by omega)
  have hm := pos_mg r (by omega)
  simp only [Ieee.Datum.quotient]
  rw [if_neg (by omega)]
  simp only [Option.map_some, Option.some.injEq]
  have hn : Nat.log2 4503599627370496 = 52 := by decide +kernel
  rw [hl, hn]
  have hmore : Ieee.double.fractionBits + 2 + 52 - 52 = 54 := by decide
  rw [hmore, Nat.shiftLeft_eq]
  have e1 : mg Ieee.double r * 2 ^ 54 / 4503599627370496 = mg Ieee.double r * 4 := by omega
  have e2 : mg Ieee.double r * 2 ^ 54 % 4503599627370496 = 0 := by omega
  rw [e1, e2]
  have e3 : 2 * (mg Ieee.double r * 4) + ((0 : Nat) != 0).toNat = mg Ieee.double r * 2 ^ 3 := by simp; omega
  rw [e3]
  show Ieee.double.nearest _ _ _ = _
  unfold Ieee.Format.nearest
  have hne : mg Ieee.double r * 2 ^ 3 ≠ 0 := by omega
  rw [if_neg hne]
  have hlg : (mg Ieee.double r * 2 ^ 3).log2 = 55 := by rw [log2_mul_pow _ _ (by omega), hl]
  simp only [double_least, double_fraction, double_binade, double_inf, hlg]
  generalize hq : r / 4503599627370496 = q at *
  have hq2 : 2 ≤ q := by omega
  have a1 : max (-1074 + ((q - 1 : Nat) : Int) - -51 - ((54 : Nat) : Int) - 1 + ((55 : Nat) : Int) - 52) (-1074) = -1074 + (q : Int) - 2 := by omega
  rw [a1]
  have a2 : (-1074 + ((q - 1 : Nat) : Int) - -51 - ((54 : Nat) : Int) - 1 - (-1074 + (q : Int) - 2)).toNat = 0 := by omega
  have a3 : (-1074 + (q : Int) - 2 - (-1074 + ((q - 1 : Nat) : Int) - -51 - ((54 : Nat) : Int) - 1)).toNat = 3 := by omega
  have a4 : (-1074 + (q : Int) - 2 - -1074).toNat = q - 2 := by omega
  rw [a2, a3, a4, Nat.shiftLeft_zero]
  have hc : Ieee.Toward.even.cut false (mg Ieee.double r * 2 ^ 3) 3 = mg Ieee.double r := by
    rw [cut_exact _ 3 (by rw [hlg]; omega) (Nat.mul_mod_left _ _), Nat.mul_div_cancel _ (by decide)]
  show Ieee.double.word false (min ((q - 2) * 4503599627370496 + Ieee.Toward.even.cut false (mg Ieee.double r * 2 ^ 3) 3) 9218868437227405312) = _
  rw [hc, hm, Nat.min_eq_left (by omega)]
  show (q - 2) * 4503599627370496 + (4503599627370496 + r % 4503599627370496) = _
  omega

theorem twice_exact (r : Nat) (h1 : 4503599627370496 ≤ r) (h2 : r + 4503599627370496 < 9218868437227405312) : floatBits .mul .f64 r 4611686018427387904 = some (r + 4503599627370496) := by
  show Ieee.double.mul r 4611686018427387904 = _
  unfold Ieee.Format.mul
  rw [pos_read r (by omega), two_read]
  have hl := log2_mg r h1
  have hm := pos_mg r h1
  simp only [Ieee.Datum.product, Option.map_some, Option.some.injEq]
  rw [show (4503599627370496 : Nat) = 2 ^ 52 from rfl]
  show Ieee.double.nearest _ _ _ = _
  unfold Ieee.Format.nearest
  have hne : mg Ieee.double r * 2 ^ 52 ≠ 0 := by omega
  rw [if_neg hne]
  have hlg : (mg Ieee.double r * 2 ^ 52).log2 = 104 := by rw [log2_mul_pow _ _ (by omega), hl]
  simp only [double_least, double_fraction, double_binade, double_inf, hlg]
  rw [show (2 : Nat) ^ 52 = 4503599627370496 from rfl]
  generalize hq : r / 4503599627370496 = q at *
  have hq2 : 1 ≤ q := by omega
  have a1 : max (-1074 + ((q - 1 : Nat) : Int) + -51 + ((104 : Nat) : Int) - 52) (-1074) = -1074 + (q : Int) := by omega
  rw [a1]
  have a2 : (-1074 + ((q - 1 : Nat) : Int) + -51 - (-1074 + (q : Int))).toNat = 0 := by omega
  have a3 : (-1074 + (q : Int) - (-1074 + ((q - 1 : Nat) : Int) + -51)).toNat = 52 := by omega
  have a4 : (-1074 + (q : Int) - -1074).toNat = q := by omega
  rw [a2, a3, a4, Nat.shiftLeft_zero]
  have hc : Ieee.Toward.even.cut (false ^^ false) (mg Ieee.double r * 4503599627370496) 52 = mg Ieee.double r := by
    rw [show (4503599627370496 : Nat) = 2 ^ 52 from rfl]
    rw [show (false ^^ false) = false from rfl, cut_exact _ 52 (by rw [hlg]; omega) (Nat.mul_mod_left _ _), Nat.mul_div_cancel _ (by decide)]
  rw [hc, hm, Nat.min_eq_left (by omega)]
  show q * 4503599627370496 + (4503599627370496 + r % 4503599627370496) = _
  omega

theorem pos_order (x c : Nat) (hx : x ≤ 9218868437227405312) (hc : c ≤ 9218868437227405312) : FloatKind.f64.format.order x c = some (compare (x : Int) (c : Int)) := by
  rw [ord_key, nn64, nn64, decide_eq_false (by omega), decide_eq_false (by omega), key64_pos x (by omega), key64_pos c (by omega)]
  rfl

theorem range_num (T K : Nat) (h1 : 873 ≤ T) (h2 : T ≤ 1149) (h3 : 4503599627370496 ≤ K) (h4 : K < 9007199254740992) :
    874 * 4503599627370496 ≤ min (T * 4503599627370496 + K) 9218868437227405312 ∧ min (T * 4503599627370496 + K) 9218868437227405312 < 1151 * 4503599627370496 := by
  rw [Nat.min_eq_left (by omega)]
  omega

theorem up_low (m : Nat) (hz : m ≠ 0) (hl : m.log2 < 24) : 4503599627370496 ≤ m * 2 ^ (52 - m.log2) := by
  have : 2 ^ m.log2 * 2 ^ (52 - m.log2) ≤ m * 2 ^ (52 - m.log2) := Nat.mul_le_mul_right _ (Nat.log2_self_le hz)
  rw [← Nat.pow_add, show m.log2 + (52 - m.log2) = 52 by omega] at this
  exact this

theorem up_nearest2 (m : Nat) (e : Int) (hz : m ≠ 0) (hl : m.log2 < 24) (h0 : -149 ≤ e) (h1 : e ≤ 104) :
    ∃ T K, Ieee.double.nearest false m e = min (T * 4503599627370496 + K) 9218868437227405312 ∧ 873 ≤ T ∧ T ≤ 1149 ∧ 4503599627370496 ≤ K ∧ K < 9007199254740992 := by
  have e1 : max (e + (m.log2 : Int) - 52) (-1074) = e + (m.log2 : Int) - 52 := by omega
  have e2 : (e + (m.log2 : Int) - 52 - e).toNat = 0 := by omega
  have e3 : (e - (e + (m.log2 : Int) - 52)).toNat = 52 - m.log2 := by omega
  refine ⟨(e + (m.log2 : Int) - 52 - -1074).toNat, m * 2 ^ (52 - m.log2), ?_, by omega, by omega, up_low m hz hl, up_kept m hl⟩
  unfold Ieee.Format.nearest
  rw [if_neg hz]
  simp only [double_least, double_fraction, double_binade, double_inf, e1, e2, e3, cut_zero, Nat.shiftLeft_eq, Ieee.Format.word, Bool.false_eq_true, if_false]

theorem ps0 (r : Nat) (h : r < 2139095040) : r % Ieee.single.signWeight = r := by
  rw [show Ieee.single.signWeight = 2147483648 from single_sw]
  exact Nat.mod_eq_of_lt (Nat.lt_trans h (by decide))
theorem ps1 (r : Nat) (h : r < 2139095040) : (r / Ieee.single.signWeight % 2 == 1) = false := by
  rw [show Ieee.single.signWeight = 2147483648 from single_sw, Nat.div_eq_of_lt (Nat.lt_trans h (by decide))]
  rfl
theorem pos_read32 (a : Nat) (h1 : a < 2139095040) : Ieee.single.read a = .number false (mg Ieee.single a) (-149 + (a / 8388608 - 1 : Nat)) := by
  have e := read_fin Ieee.single a (by rw [ps0 a h1, single_inf']; exact h1)
  rw [ps0 a h1, ps1 a h1, single_least] at e
  rw [e, ex, single_binade]

theorem mg32_pos (a : Nat) (h0 : 0 < a) : mg Ieee.single a ≠ 0 := by
  unfold mg
  rw [single_binade]
  split <;> omega

/-- what a positive 32-bit number is as a 64-bit one: normal, and of a binade near 1 -/
theorem up_range {a r : Nat} (h : UR a r) (h0 : 0 < a) (h1 : a < 2139095040) : 874 * 4503599627370496 ≤ r ∧ r < 1151 * 4503599627370496 := by
  have hn : nn .f32 a = false := by rw [nn32]; exact decide_eq_false (by omega)
  have hread := pos_read32 a h1
  obtain ⟨hm, h2, h3⟩ := read_single_bounds hread
  have hz := mg32_pos a h0
  obtain ⟨u, hu⟩ := up_some hn
  have e1 := h.1
  rw [cn_of_num (by rw [nn_up h]; exact hn), cn_of_num hn, cvu, hu] at e1
  change r = u at e1
  subst e1
  unfold floatToFloatBits at hu
  rw [if_neg (by decide), show FloatKind.f32.decode a = _ from hread] at hu
  simp only at hu
  split at hu
  · cases hu
  · cases hu
    obtain ⟨T, K, hTK, t1, t2, t3, t4⟩ := up_nearest2 _ _ hz ((Nat.log2_lt hz).2 hm) h2 h3
    rw [show FloatKind.f64.encode (.number false (mg Ieee.single a) (-149 + (a / 8388608 - 1 : Nat))) = Ieee.double.nearest false (mg Ieee.single a) (-149 + (a / 8388608 - 1 : Nat)) from rfl, hTK]
    exact range_num T K t1 t2 t3 t4
end Go.Proofs.Ytabdinmodopadab
