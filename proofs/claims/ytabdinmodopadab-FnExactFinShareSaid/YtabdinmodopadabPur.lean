/- Bounds that rounding keeps: at most 2 to the power of K; whole numbers as floats; the opposite. -/
import Derived.Test.YtabdinmodopadabHalf
namespace Go.Proofs.Ytabdinmodopadab
open Go Go.Op

/-- a whole number as a 64-bit float -/
def fi (n : Int) : Nat := floatOfInt .f64 n

theorem cn_small {b : Nat} (h : b ≤ 9218868437227405312) : cn .f64 b = b := by
  refine cn_of_num ?_
  rw [nn64]
  exact decide_eq_false (by omega)

theorem fop_cnl (op : BinOp) (k : FloatKind) (x y : Nat) : fop op k (cn k x) y = fop op k x y := by
  unfold fop
  rw [← floatBits_cn op k (cn k x) y, cn_cn, floatBits_cn]
theorem fop_cnr (op : BinOp) (k : FloatKind) (x y : Nat) : fop op k x (cn k y) = fop op k x y := by
  unfold fop
  rw [← floatBits_cn op k x (cn k y), cn_cn, floatBits_cn]


theorem read_mant {b : Nat} {s : Bool} {m : Nat} {e : Int} (h : Ieee.double.read b = .number s m e) : m < 9007199254740992 := by
  unfold Ieee.Format.read at h
  dsimp only at h
  rw [double_binade] at h
  split at h
  · simp only [Ieee.Datum.number.injEq] at h; omega
  · split at h
    · simp only [Ieee.Datum.number.injEq] at h; omega
    · split at h <;> simp at h


theorem signed_abs (s : Bool) (m u : Nat) : (Ieee.signed s m u).natAbs = m * 2 ^ u := by
  unfold Ieee.signed
  rw [Nat.shiftLeft_eq]
  cases s
  · rw [if_neg (by decide)]; exact Int.natAbs_natCast _
  · rw [if_pos rfl, Int.natAbs_neg]; exact Int.natAbs_natCast _


/-- m times 2 to the power of e is at most 2 to the power of K -/
def Le (K : Int) (m : Nat) (e : Int) : Prop := m = 0 ∨ (e ≤ K ∧ m ≤ 2 ^ (K - e).toNat)
def Bl (K : Int) (b : Nat) : Prop := ∃ s m e, Ieee.double.read b = .number s m e ∧ Le K m e

theorem Bl.mono {K L : Int} {b : Nat} (h : Bl K b) (hl : K ≤ L) : Bl L b := by
  obtain ⟨s, m, e, hr, hm⟩ := h
  refine ⟨s, m, e, hr, ?_⟩
  rcases hm with hm | ⟨h1, h2⟩
  · exact .inl hm
  · exact .inr ⟨by omega, Nat.le_trans h2 (Nat.pow_le_pow_right (by decide) (by omega))⟩

theorem Lt_of_lt {K : Int} {m : Nat} {e : Int} (hm : m ≠ 0) (he : e ≤ K) (h : m < 2 ^ (K - e).toNat) : (m.log2 : Int) + e < K := by
  have := (Nat.log2_lt hm).2 h
  omega

/-- what is less than 2 to the power of K is, rounded, at most that -/
theorem near_lt {K : Int} (s : Bool) {m : Nat} {e : Int} (hm : m ≠ 0) (h : (m.log2 : Int) + e < K) (h0 : -900 ≤ K) (h1 : K ≤ 900) : Bl K (Ieee.double.nearest s m e) := by
  obtain ⟨r, hr, hle⟩ := nearest_rung Ieee.double s m e hm
  rw [double_binade, double_least, double_fraction] at hle
  have hT : (max (e + (m.log2 : Int) - 52) (-1074) - -1074).toNat ≤ 2040 := by omega
  have hTK : ((max (e + (m.log2 : Int) - 52) (-1074) - -1074).toNat : Int) ≤ K + 1021 := by omega
  generalize (max (e + (m.log2 : Int) - 52) (-1074) - -1074).toNat = T at *
  obtain ⟨g1, g2⟩ := rung_num T r hle hT
  rw [double_inf, Nat.min_eq_left (by omega)] at hr
  have hsw : Ieee.double.signWeight = 9223372036854775808 := double_sw
  have hmod : (Ieee.double.word s r) % Ieee.double.signWeight = r := word_mod _ _ _ (by rw [hsw]; omega)
  have hread := read_fin Ieee.double (Ieee.double.word s r) (by rw [hmod, double_inf]; exact g1)
  rw [hmod] at hread
  rw [hr]
  refine ⟨_, _, _, hread, ?_⟩
  have hex : ex Ieee.double r = r / 4503599627370496 - 1 := by unfold ex; rw [double_binade]
  rw [double_least, hex]
  refine .inr ⟨by omega, ?_⟩
  by_cases hq : r / 4503599627370496 = T + 2
  · have hmg : mg Ieee.double r = 4503599627370496 := by
      rw [pos_mg r (by omega)]; omega
    rw [hmg]
    exact Nat.le_trans (show 4503599627370496 ≤ 2 ^ 52 by decide) (Nat.pow_le_pow_right (by decide) (by omega))
  · have := double_mg r
    exact Nat.le_trans (Nat.le_of_lt this) (Nat.le_trans (show 9007199254740992 ≤ 2 ^ 53 by decide) (Nat.pow_le_pow_right (by decide) (by omega)))

theorem pow_log2 (k : Nat) : (2 ^ k).log2 = k := by
  have := log2_mul_pow 1 k (by decide)
  rw [Nat.one_mul] at this
  rw [this]
  show 0 + k = k
  omega

/-- a power of two is rounded to itself -/
theorem near_pow {K : Int} (s : Bool) {m : Nat} {e : Int} (he : e ≤ K) (hm : m = 2 ^ (K - e).toNat) (h0 : -900 ≤ K) (h1 : K ≤ 900) : Bl K (Ieee.double.nearest s m e) := by
  have hm0 : m ≠ 0 := by rw [hm]; exact Nat.ne_of_gt (Nat.two_pow_pos _)
  have hl : m.log2 = (K - e).toNat := by rw [hm]; exact pow_log2 _
  have hlast : max (e + (m.log2 : Int) - 52) (-1074) = K - 52 := by rw [hl]; omega
  have hkept : Ieee.Toward.even.cut s (m <<< (e - (K - 52)).toNat) (K - 52 - e).toNat = 4503599627370496 := by
    by_cases hd : K - 52 ≤ e
    · rw [show (K - 52 - e).toNat = 0 by omega, cut_zero, Nat.shiftLeft_eq, hm, ← Nat.pow_add, show (K - e).toNat + (e - (K - 52)).toNat = 52 by omega]
    · rw [show (e - (K - 52)).toNat = 0 by omega, Nat.shiftLeft_zero, hm]
      unfold Ieee.Toward.cut
      simp only [Nat.one_shiftLeft, pow_log2]
      rw [Nat.min_eq_left (by omega)]
      have hp : 2 ^ (K - e).toNat = 2 ^ 52 * 2 ^ (K - 52 - e).toNat := by rw [← Nat.pow_add]; congr 1; omega
      rw [hp, Nat.mul_mod_left, Nat.mul_div_cancel _ (Nat.two_pow_pos _)]
      simp
  have hn : Ieee.double.nearest s m e = Ieee.double.word s (min ((K - 52 - -1074).toNat * 4503599627370496 + 4503599627370496) 9218868437227405312) := by
    unfold Ieee.Format.nearest
    rw [if_neg hm0]
    simp only [double_least, double_fraction, double_binade, double_inf, hlast, hkept]
  have hTb : (K - 52 - -1074).toNat ≤ 1922 := by omega
  have hTe : ((K - 52 - -1074).toNat : Int) = K + 1022 := by omega
  generalize (K - 52 - -1074).toNat = T at *
  rw [Nat.min_eq_left (by omega)] at hn
  have hsw : Ieee.double.signWeight = 9223372036854775808 := double_sw
  have hmod : (Ieee.double.word s (T * 4503599627370496 + 4503599627370496)) % Ieee.double.signWeight = T * 4503599627370496 + 4503599627370496 := word_mod _ _ _ (by rw [hsw]; omega)
  have hread := read_fin Ieee.double (Ieee.double.word s (T * 4503599627370496 + 4503599627370496)) (by rw [hmod, double_inf]; omega)
  rw [hmod] at hread
  rw [hn]
  refine ⟨_, _, _, hread, .inr ?_⟩
  have hex : ex Ieee.double (T * 4503599627370496 + 4503599627370496) = T := by
    unfold ex; rw [double_binade]; omega
  have hmg : mg Ieee.double (T * 4503599627370496 + 4503599627370496) = 4503599627370496 := by
    rw [pos_mg _ (by omega)]; omega
  rw [double_least, hex, hmg]
  exact ⟨by omega, Nat.le_trans (show 4503599627370496 ≤ 2 ^ 52 by decide) (Nat.pow_le_pow_right (by decide) (by omega))⟩

theorem near_Le0 {K : Int} (s : Bool) {m : Nat} {e : Int} (h : m = 0) : Bl K (Ieee.double.nearest s m e) := by
  subst h
  refine ⟨s, 0, Ieee.double.leastPlace, ?_, .inl rfl⟩
  unfold Ieee.Format.nearest
  rw [if_pos rfl]
  cases s <;> rfl
theorem near_Le {K : Int} (s : Bool) {m : Nat} {e : Int} (h : Le K m e) (h0 : -900 ≤ K) (h1 : K ≤ 900) : Bl K (Ieee.double.nearest s m e) := by
  rcases h with h | ⟨he, hm⟩
  · exact near_Le0 s h
  · by_cases hz : m = 0
    · exact near_Le0 s hz
    · rcases Nat.lt_or_ge m (2 ^ (K - e).toNat) with hlt | hge
      · exact near_lt s hz (Lt_of_lt hz he hlt) h0 h1
      · exact near_pow s he (Nat.le_antisymm hm hge) h0 h1

theorem mul_Bl {K L : Int} {x y : Nat} (hx : Bl K x) (hy : Bl L y) (h0 : -900 ≤ K + L) (h1 : K + L ≤ 900) : Bl (K + L) (fop .mul .f64 x y) := by
  obtain ⟨s, m, i, hm, hml⟩ := hx
  obtain ⟨t, n, j, hn, hnl⟩ := hy
  have e : floatBits .mul .f64 x y = some (Ieee.double.nearest (s ^^ t) (m * n) (i + j)) := by
    show Ieee.double.mul x y = _
    unfold Ieee.Format.mul
    rw [hm, hn]
    rfl
  rw [fop, e, Option.getD_some]
  refine near_Le _ ?_ h0 h1
  rcases hml with h | ⟨a1, a2⟩
  · exact .inl (by rw [h, Nat.zero_mul])
  · rcases hnl with h | ⟨b1, b2⟩
    · exact .inl (by rw [h, Nat.mul_zero])
    · refine .inr ⟨by omega, ?_⟩
      have := Nat.mul_le_mul a2 b2
      rw [← Nat.pow_add, show (K - i).toNat + (L - j).toNat = (K + L - (i + j)).toNat by omega] at this
      exact this

theorem part_le {K : Int} {m : Nat} {i b : Int} (h : Le K m i) (hb : b ≤ i) : m * 2 ^ (i - b).toNat ≤ 2 ^ (K - b).toNat := by
  rcases h with h | ⟨h1, h2⟩
  · rw [h, Nat.zero_mul]; exact Nat.zero_le _
  · have := Nat.mul_le_mul_right (2 ^ (i - b).toNat) h2
    rw [← Nat.pow_add, show (K - i).toNat + (i - b).toNat = (K - b).toNat by omega] at this
    exact this

theorem sum_le (A B : Int) (P : Nat) (ha : A.natAbs ≤ P) (hb : B.natAbs ≤ P) : (A + B).natAbs ≤ P * 2 := by omega

theorem add_Bl {K : Int} {x y : Nat} (hx : Bl K x) (hy : Bl K y) (h0 : -900 ≤ K) (h1 : K ≤ 800) : Bl (K + 1) (fop .add .f64 x y) := by
  obtain ⟨s, m, i, hm, hml⟩ := hx
  obtain ⟨t, n, j, hn, hnl⟩ := hy
  have e : floatBits .add .f64 x y = some (Ieee.double.nearest (if Ieee.signed s m (i - min i j).toNat + Ieee.signed t n (j - min i j).toNat = 0 then s && t else decide (Ieee.signed s m (i - min i j).toNat + Ieee.signed t n (j - min i j).toNat < 0)) (Ieee.signed s m (i - min i j).toNat + Ieee.signed t n (j - min i j).toNat).natAbs (min i j)) := by
    show Ieee.double.add x y = _
    unfold Ieee.Format.add
    rw [hm, hn]
    rfl
  rw [fop, e, Option.getD_some]
  refine near_Le _ ?_ (by omega) (by omega)
  have p1 := part_le hml (Int.min_le_left i j)
  have p2 := part_le hnl (Int.min_le_right i j)
  rw [← signed_abs s] at p1
  rw [← signed_abs t] at p2
  have p3 := sum_le _ _ _ p1 p2
  by_cases hK : min i j ≤ K
  · refine .inr ⟨by omega, Nat.le_trans p3 ?_⟩
    rw [← Nat.pow_succ]
    exact Nat.pow_le_pow_right (by decide) (by omega)
  · have z1 : m = 0 := by rcases hml with h | h; exact h; omega
    have z2 : n = 0 := by rcases hnl with h | h; exact h; omega
    refine .inl ?_
    rw [z1, z2]
    unfold Ieee.signed
    simp

def leB (K : Int) (b : Nat) : Bool := match Ieee.double.read b with
  | .number _ m e => m == 0 || (decide (e ≤ K) && decide (m ≤ 2 ^ (K - e).toNat))
  | _ => false
theorem Bl_of_B {K : Int} {b : Nat} (h : leB K b = true) : Bl K b := by
  unfold leB at h
  split at h
  · rename_i s m e hr
    refine ⟨s, m, e, hr, ?_⟩
    simp at h
    exact h
  · cases h


theorem Bl_num {K : Int} {x : Nat} (h : Bl K x) : nn .f64 x = false := by
  obtain ⟨s, m, e, hr, _⟩ := h
  unfold nn
  rw [show FloatKind.f64.decode x = .number s m e from hr]
  rfl
theorem Bl_Bd {K : Int} {x : Nat} (h : Bl K x) : Bd (K + 1) x := by
  obtain ⟨s, m, e, hr, hm⟩ := h
  refine ⟨s, m, e, hr, ?_⟩
  rcases hm with h | ⟨h1, h2⟩
  · exact .inl h
  · by_cases hz : m = 0
    · exact .inl hz
    · refine .inr ?_
      have : m.log2 < (K - e).toNat + 1 := (Nat.log2_lt hz).2 (Nat.lt_of_le_of_lt h2 (Nat.pow_lt_pow_right (by decide) (by omega)))
      omega

/-- a quotient: the divisor is a number of at least 2 to the power of L -/
theorem quo_Bl' {K L : Int} {x y n : Nat} {j : Int} (hx : Bl K x) (hy : Ieee.double.read y = .number false n j) (hn : n ≠ 0) (hl : L ≤ (n.log2 : Int) + j) (h0 : -900 ≤ K - L) (h1 : K - L ≤ 900) : Bl (K - L) (fop .quo .f64 x y) := by
  obtain ⟨s, m, i, hm, hml⟩ := hx
  have hmb := read_mant hm
  have e : floatBits .quo .f64 x y = some (Ieee.double.nearest (s ^^ false) (2 * (m <<< (54 + n.log2 - m.log2) / n) + (m <<< (54 + n.log2 - m.log2) % n != 0).toNat) (i - j - (54 + n.log2 - m.log2 : Nat) - 1)) := by
    show Ieee.double.div x y = _
    unfold Ieee.Format.div
    rw [hm, hy]
    simp only [Ieee.Datum.quotient]
    rw [if_neg hn]
    rfl
  rw [fop, e, Option.getD_some]
  refine near_Le _ ?_ h0 h1
  by_cases hm0 : m = 0
  · subst hm0
    refine .inl ?_
    simp
  · obtain ⟨a1, a2⟩ : i ≤ K ∧ m ≤ 2 ^ (K - i).toNat := by
      rcases hml with h | h
      · exact absurd h hm0
      · exact h
    have hlm : m.log2 < 53 := (Nat.log2_lt hm0).2 hmb
    have hlK : m.log2 ≤ (K - i).toNat := by
      have : m.log2 < (K - i).toNat + 1 := (Nat.log2_lt hm0).2 (Nat.lt_of_le_of_lt a2 (Nat.pow_lt_pow_right (by decide) (by omega)))
      omega
    generalize hmo : 54 + n.log2 - m.log2 = more at *
    rw [Nat.shiftLeft_eq]
    have hs : (K - i).toNat + more = ((K - i).toNat + more - n.log2) + n.log2 := by omega
    have d1 : m * 2 ^ more ≤ 2 ^ ((K - i).toNat + more - n.log2) * n := by
      refine Nat.le_trans (Nat.mul_le_mul_right _ a2) ?_
      have e2 : 2 ^ (K - i).toNat * 2 ^ more = 2 ^ ((K - i).toNat + more - n.log2) * 2 ^ n.log2 := by rw [← Nat.pow_add, ← Nat.pow_add, ← hs]
      rw [e2]
      exact Nat.mul_le_mul_left _ (Nat.log2_self_le hn)
    have d2 : 2 * (m * 2 ^ more / n) + (m * 2 ^ more % n != 0).toNat ≤ 2 ^ ((K - i).toNat + more - n.log2 + 1) := by
      rw [Nat.pow_succ]
      generalize m * 2 ^ more = M at *
      generalize 2 ^ ((K - i).toNat + more - n.log2) = S at *
      have hq : M / n ≤ S := Nat.div_le_of_le_mul (by rw [Nat.mul_comm]; exact d1)
      have hdm := Nat.div_add_mod M n
      have hb : (M % n != 0).toNat ≤ 1 := by cases (M % n != 0) <;> decide
      rcases Nat.lt_or_eq_of_le hq with h | h
      · omega
      · rw [h, Nat.mul_comm] at hdm
        have hR : M % n = 0 := by omega
        rw [h, hR]
        show 2 * S + 0 ≤ S * 2
        omega
    refine .inr ⟨by omega, Nat.le_trans d2 (Nat.pow_le_pow_right (by decide) (by omega))⟩

theorem neg_mod64 (x : Nat) : negFloat .f64 x % 9223372036854775808 = x % 9223372036854775808 := by
  show (x ^^^ 2 ^ 63) % 2 ^ 63 = x % 2 ^ 63
  rw [Nat.xor_mod_two_pow, Nat.mod_self, Nat.xor_zero]
theorem neg_mod32 (x : Nat) : negFloat .f32 x % 2147483648 = x % 2147483648 := by
  show (x ^^^ 2 ^ 31) % 2 ^ 31 = x % 2 ^ 31
  rw [Nat.xor_mod_two_pow, Nat.mod_self, Nat.xor_zero]
theorem nn_neg (k : FloatKind) (x : Nat) : nn k (negFloat k x) = nn k x := by
  cases k
  · rw [nn32, nn32, neg_mod32]
  · rw [nn64, nn64, neg_mod64]
/-- the opposite, with the one not-a-number -/
def fneg (k : FloatKind) (x : Nat) : Nat := cn k (negFloat k x)
theorem fneg_cn (k : FloatKind) (x : Nat) : fneg k (cn k x) = fneg k x := by
  unfold fneg
  cases h : nn k x
  · rw [cn_of_num h]
  · rw [cn_of_nan h, cn_of_nan (by rw [nn_neg]; exact nn_qn k), cn_of_nan (by rw [nn_neg]; exact h)]
theorem cn_neg {k : FloatKind} {x S : Nat} (h : cn k x = S) : cn k (negFloat k x) = fneg k S := by rw [← h, fneg_cn]; rfl

/-- a number of these bits, whatever its sign -/
theorem Bl_of_mod {K : Int} {x : Nat} (hf : x % 9223372036854775808 < 9218868437227405312) (h : Le K (mg Ieee.double (x % 9223372036854775808)) (-1074 + (ex Ieee.double (x % 9223372036854775808) : Nat))) : Bl K x := by
  have hr := read_fin Ieee.double x
  rw [show Ieee.double.signWeight = 9223372036854775808 from double_sw, double_inf] at hr
  exact ⟨_, _, _, hr hf, h⟩
theorem Bl_mod {K : Int} {x : Nat} (h : Bl K x) : x % 9223372036854775808 < 9218868437227405312 ∧ Le K (mg Ieee.double (x % 9223372036854775808)) (-1074 + (ex Ieee.double (x % 9223372036854775808) : Nat)) := by
  obtain ⟨s, m, e, hr, hm⟩ := h
  have hr2 := read_fin Ieee.double x
  have hr3 := read_inf Ieee.double x
  rw [show Ieee.double.signWeight = 9223372036854775808 from double_sw, double_inf] at hr2 hr3
  have hn : nn .f64 x = false := by unfold nn; rw [show FloatKind.f64.decode x = .number s m e from hr]; rfl
  rw [nn64] at hn
  have hn := of_decide_eq_false hn
  by_cases hi : x % 9223372036854775808 = 9218868437227405312
  · rw [hr3 hi (by decide)] at hr; cases hr
  · have hlt : x % 9223372036854775808 < 9218868437227405312 := by omega
    rw [hr2 hlt] at hr
    simp only [Ieee.Datum.number.injEq] at hr
    obtain ⟨_, rfl, rfl⟩ := hr
    exact ⟨hlt, hm⟩
theorem neg_Bl {K : Int} {x : Nat} (h : Bl K x) : Bl K (negFloat .f64 x) := by
  obtain ⟨h1, h2⟩ := Bl_mod h
  exact Bl_of_mod (by rw [neg_mod64]; exact h1) (by rw [neg_mod64]; exact h2)
theorem fneg_Bl {K : Int} {x : Nat} (h : Bl K x) : Bl K (fneg .f64 x) := by
  have := neg_Bl h
  unfold fneg
  rw [cn_of_num (Bl_num this)]
  exact this

/-- less than 2 to the power of k, by the bits -/
theorem Bl_bits {x : Nat} (q : Nat) (hq : q ≤ 2000) (h : x % 9223372036854775808 < (q + 1) * 4503599627370496) : Bl ((q : Int) - 1022) x := by
  have hf : x % 9223372036854775808 < 9218868437227405312 := by omega
  refine Bl_of_mod hf ?_
  generalize x % 9223372036854775808 = r at *
  have hm := double_mg r
  have hex : ex Ieee.double r = r / 4503599627370496 - 1 := by unfold ex; rw [double_binade]
  have hq' : r / 4503599627370496 ≤ q := by omega
  rw [hex]
  by_cases h0 : r / 4503599627370496 = 0
  · rw [h0]
    have hr : mg Ieee.double r = r := by unfold mg; rw [double_binade, if_pos (by omega)]
    rw [hr]
    refine .inr ⟨by omega, ?_⟩
    have : r < 2 ^ 52 := by omega
    exact Nat.le_trans (Nat.le_of_lt this) (Nat.pow_le_pow_right (by decide) (by omega))
  · refine .inr ⟨by omega, ?_⟩
    exact Nat.le_trans (Nat.le_of_lt (show mg Ieee.double r < 2 ^ 53 from hm)) (Nat.pow_le_pow_right (by decide) (by omega))

/-- what is small is narrowed to a finite number -/
theorem cvd_fin {b : Nat} (h : Bd 127 b) : fin .f32 (cvd b) = true := by
  obtain ⟨s, m, e, hr, hm⟩ := h
  unfold cvd floatToFloatBits
  rw [if_neg (by decide), show FloatKind.f64.decode b = .number s m e from hr]
  simp only
  have h1 := single_small s m e hm
  have h2 : (FloatKind.f32.decode (FloatKind.f32.encode (.number s m e))) = Ieee.single.read (Ieee.single.write (.number s m e)) := rfl
  rw [if_neg (by rw [h2, h1]; simp)]
  show fin .f32 (Ieee.single.write (.number s m e)) = true
  unfold fin
  rw [show nn .f32 (Ieee.single.write (.number s m e)) = false from read_write Ieee.single (.number s m e) rfl]
  rw [show FloatKind.f32.decode (Ieee.single.write (.number s m e)) = Ieee.single.read (Ieee.single.write (.number s m e)) from rfl, h1]
  rfl

end Go.Proofs.Ytabdinmodopadab
