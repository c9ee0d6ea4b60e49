/- How great a number may be: bounds by powers of two, kept through operations; what is small enough is narrowed to a finite number. -/
import Derived.Test.YtabdinmodopadabNum
namespace Go.Proofs.Ytabdinmodopadab

theorem even_cut_le (neg : Bool) (n d : Nat) : Ieee.Toward.even.cut neg n d ≤ n / 2 ^ min d (n.log2 + 2) + 1 := by
  unfold Ieee.Toward.cut
  simp only [Nat.one_shiftLeft]
  have : ∀ b : Bool, b.toNat ≤ 1 := fun b => by cases b <;> decide
  exact Nat.add_le_add_left (this _) _

theorem div_pow_lt (m d : Nat) (hd : d ≤ m.log2 + 1) : m / 2 ^ d < 2 ^ (m.log2 + 1 - d) := by
  rw [Nat.div_lt_iff_lt_mul (Nat.two_pow_pos _), ← Nat.pow_add, show m.log2 + 1 - d + d = m.log2 + 1 by omega]
  exact Nat.lt_log2_self

theorem kept_le (fb : Nat) (neg : Bool) (m : Nat) (e last : Int) (hl : e + (m.log2 : Int) - fb ≤ last) :
    Ieee.Toward.even.cut neg (m <<< (e - last).toNat) (last - e).toNat ≤ 2 ^ (fb + 1) := by
  by_cases h : last ≤ e
  · have h0 : (last - e).toNat = 0 := by omega
    rw [h0, cut_zero, Nat.shiftLeft_eq]
    have h1 : m < 2 ^ (m.log2 + 1) := Nat.lt_log2_self
    have h2 : m * 2 ^ (e - last).toNat < 2 ^ (m.log2 + 1) * 2 ^ (e - last).toNat := Nat.mul_lt_mul_of_pos_right h1 (Nat.two_pow_pos _)
    rw [← Nat.pow_add] at h2
    exact Nat.le_trans (Nat.le_of_lt h2) (Nat.pow_le_pow_right (by decide) (by omega))
  · have h0 : (e - last).toNat = 0 := by omega
    rw [h0, Nat.shiftLeft_zero]
    refine Nat.le_trans (even_cut_le neg m _) ?_
    have hp : 1 ≤ 2 ^ (fb + 1) := Nat.one_le_two_pow
    by_cases hd : (last - e).toNat ≤ m.log2 + 1
    · rw [Nat.min_eq_left (by omega)]
      have h1 := div_pow_lt m _ hd
      have h2 : 2 ^ (m.log2 + 1 - (last - e).toNat) ≤ 2 ^ (fb + 1) := Nat.pow_le_pow_right (by decide) (by omega)
      omega
    · rw [Nat.min_eq_right (by omega)]
      have h1 : m < 2 ^ (m.log2 + 1) := Nat.lt_log2_self
      have h2 : 2 ^ (m.log2 + 1) ≤ 2 ^ (m.log2 + 2) := Nat.pow_le_pow_right (by decide) (by omega)
      rw [Nat.div_eq_of_lt (by omega)]
      omega

theorem nearest_rung (f : Ieee.Format) (neg : Bool) (m : Nat) (e : Int) (hm : m ≠ 0) :
    ∃ r, f.nearest neg m e = f.word neg (min r f.infRung) ∧ r ≤ (max (e + (m.log2 : Int) - f.fractionBits) f.leastPlace - f.leastPlace).toNat * f.binade + 2 * f.binade := by
  unfold Ieee.Format.nearest
  rw [if_neg hm]
  refine ⟨_, rfl, Nat.add_le_add_left ?_ _⟩
  have := kept_le f.fractionBits neg m e (max (e + (m.log2 : Int) - f.fractionBits) f.leastPlace) (by omega)
  rw [show 2 * f.binade = 2 ^ (f.fractionBits + 1) from by unfold Ieee.Format.binade; rw [Nat.pow_succ, Nat.mul_comm]]
  exact this

/-- less than 2 to the power of K -/
def Lt (K : Int) (m : Nat) (e : Int) : Prop := m = 0 ∨ (m.log2 : Int) + e < K
def Bd (K : Int) (b : Nat) : Prop := ∃ s m e, Ieee.double.read b = .number s m e ∧ Lt K m e

theorem word_mod (f : Ieee.Format) (neg : Bool) (r : Nat) (h : r < f.signWeight) : f.word neg r % f.signWeight = r := by
  unfold Ieee.Format.word
  split
  · rw [Nat.add_mod_left, Nat.mod_eq_of_lt h]
  · exact Nat.mod_eq_of_lt h

theorem Bd.mono {K L : Int} {b : Nat} (h : Bd K b) (hl : K ≤ L) : Bd L b := by
  obtain ⟨s, m, e, hr, hm⟩ := h
  refine ⟨s, m, e, hr, ?_⟩
  rcases hm with hm | hm
  · exact .inl hm
  · exact .inr (by omega)

theorem rung_num (T r : Nat) (h : r ≤ T * 4503599627370496 + 2 * 4503599627370496) (hT : T ≤ 2040) : r < 9218868437227405312 ∧ r / 4503599627370496 ≤ T + 2 := by
  constructor
  · omega
  · omega

theorem double_mg (r : Nat) : mg Ieee.double r < 9007199254740992 := by
  unfold mg
  rw [double_binade]
  split <;> omega

theorem nearest_Bd (K : Int) (s : Bool) (m : Nat) (e : Int) (h : Lt K m e) (h0 : -1000 ≤ K) (h1 : K ≤ 1000) : Bd (K + 1) (Ieee.double.nearest s m e) := by
  by_cases hm : m = 0
  · subst hm
    refine ⟨s, 0, Ieee.double.leastPlace, ?_, .inl rfl⟩
    unfold Ieee.Format.nearest
    rw [if_pos rfl]
    cases s <;> rfl
  · obtain ⟨r, hr, hle⟩ := nearest_rung Ieee.double s m e hm
    have hlt : (m.log2 : Int) + e < K := by rcases h with h | h; exact absurd h hm; exact h
    rw [double_binade, double_least, double_fraction] at hle
    have hT : (max (e + (m.log2 : Int) - 52) (-1074) - -1074).toNat ≤ 2040 := by omega
    have hTK : ((max (e + (m.log2 : Int) - 52) (-1074) - -1074).toNat : Int) - 1074 ≤ max (K - 53) (-1074) := by omega
    generalize (max (e + (m.log2 : Int) - 52) (-1074) - -1074).toNat = T at *
    obtain ⟨g1, g2⟩ := rung_num T r hle hT
    rw [double_inf, Nat.min_eq_left (by omega)] at hr
    have hsw : Ieee.double.signWeight = 9223372036854775808 := double_sw
    have hmod : (Ieee.double.word s r) % Ieee.double.signWeight = r := word_mod _ _ _ (by rw [hsw]; omega)
    have hread := read_fin Ieee.double (Ieee.double.word s r) (by rw [hmod, double_inf]; exact g1)
    rw [hmod] at hread
    rw [hr]
    refine ⟨_, _, _, hread, ?_⟩
    by_cases hz : mg Ieee.double r = 0
    · exact .inl hz
    · refine .inr ?_
      have hl : (mg Ieee.double r).log2 < 53 := (Nat.log2_lt hz).2 (double_mg r)
      have hex : ex Ieee.double r = r / 4503599627370496 - 1 := by unfold ex; rw [double_binade]
      rw [double_least, hex]
      generalize r / 4503599627370496 = q at *
      generalize (mg Ieee.double r).log2 = l at *
      omega

theorem single_binade : Ieee.single.binade = 8388608 := by decide
theorem single_inf' : Ieee.single.infRung = 2139095040 := by decide
theorem single_least : Ieee.single.leastPlace = -149 := by decide
theorem single_fraction : (Ieee.single.fractionBits : Int) = 23 := by decide

theorem single_small (s : Bool) (m : Nat) (e : Int) (h : Lt 127 m e) : (Ieee.single.read (Ieee.single.write (.number s m e))).isInfinity = false := by
  show (Ieee.single.read (Ieee.single.nearest s m e)).isInfinity = false
  by_cases hm : m = 0
  · subst hm
    exact read_word_fin Ieee.single s 0 (by decide)
  · obtain ⟨r, hr, hle⟩ := nearest_rung Ieee.single s m e hm
    have hlt : (m.log2 : Int) + e < 127 := by rcases h with h | h; exact absurd h hm; exact h
    rw [single_binade, single_least, single_fraction] at hle
    have hT : (max (e + (m.log2 : Int) - 23) (-149) - -149).toNat ≤ 252 := by omega
    generalize (max (e + (m.log2 : Int) - 23) (-149) - -149).toNat = T at *
    rw [hr, single_inf']
    exact read_word_fin _ _ _ (by rw [single_inf']; omega)

/-- what is small enough is not too great to be narrowed -/
theorem ovf_small {b : Nat} (h : Bd 127 b) : ovf b = false := by
  obtain ⟨s, m, e, hr, hm⟩ := h
  unfold ovf floatToFloatBits
  rw [if_neg (by decide)]
  rw [show FloatKind.f64.decode b = .number s m e from hr]
  simp only
  rw [if_neg (by rw [show FloatKind.f32.decode (FloatKind.f32.encode (.number s m e)) = Ieee.single.read (Ieee.single.write (.number s m e)) from rfl, single_small s m e hm]; simp)]
  simp

theorem ovf_nan {b : Nat} (h : nn .f64 b = true) : ovf b = false := by simp [ovf, h]

theorem up_Bd {a r : Nat} (h : UR a r) (hf : fin .f32 a = true) : Bd 129 r := by
  obtain ⟨s, m, e, hr⟩ := fin_number hf
  have hn : nn .f32 a = false := by
    cases hn : nn .f32 a
    · rfl
    · rw [fin_nan hn] at hf; cases hf
  obtain ⟨hm, h0, h1⟩ := read_single_bounds (show Ieee.single.read a = _ from hr)
  obtain ⟨u, hu⟩ := up_some hn
  have e1 := h.1
  rw [cn_of_num (by rw [nn_up h]; exact hn), cn_of_num hn, cvu, hu] at e1
  change r = u at e1
  subst e1
  unfold floatToFloatBits at hu
  rw [if_neg (by decide), show FloatKind.f32.decode a = .number s m e from hr] at hu
  simp only at hu
  split at hu
  · cases hu
  · cases hu
    refine nearest_Bd 128 s m e ?_ (by omega) (by omega)
    by_cases hz : m = 0
    · exact .inl hz
    · have := (Nat.log2_lt hz).2 hm
      exact .inr (by omega)

/-! Roots. -/
theorem log2_mul_pow (m k : Nat) (h : m ≠ 0) : (m * 2 ^ k).log2 = m.log2 + k := by
  rw [Nat.log2_eq_iff (Nat.mul_ne_zero h (Nat.ne_of_gt (Nat.two_pow_pos _)))]
  have a := Nat.log2_self_le h
  have b := @Nat.lt_log2_self m
  constructor
  · rw [Nat.pow_add]; exact Nat.mul_le_mul_right _ a
  · rw [show m.log2 + k + 1 = m.log2 + 1 + k by omega, Nat.pow_add]; exact Nat.mul_lt_mul_of_pos_right b (Nat.two_pow_pos _)

theorem rootFrom_lt (n : Nat) : ∀ (todo root : Nat), Ieee.Datum.rootFrom n todo root < root + 2 ^ todo
  | 0, root => by simp [Ieee.Datum.rootFrom]
  | todo + 1, root => by
    unfold Ieee.Datum.rootFrom
    have h1 := rootFrom_lt n todo (root + 1 <<< todo)
    have h2 := rootFrom_lt n todo root
    rw [Nat.one_shiftLeft] at h1
    have hp : 2 ^ (todo + 1) = 2 ^ todo + 2 ^ todo := by rw [Nat.pow_succ]; omega
    have hq := Nat.two_pow_pos todo
    simp only [Nat.one_shiftLeft]
    split <;> omega

/-- a root, up to the bits of a not-a-number -/
def fsq (x : Nat) : Nat := (Ieee.double.sqrt x).getD (qn .f64)

theorem sqrt_Bd {x r : Nat} (h : Bd 129 x) (hr : Ieee.double.sqrt x = some r) : Bd 127 r := by
  obtain ⟨s, m, i, hx, hm⟩ := h
  unfold Ieee.Format.sqrt at hr
  rw [hx] at hr
  simp only [Ieee.Datum.root] at hr
  by_cases h0 : m = 0
  · rw [if_pos h0] at hr
    simp only [Option.map_some, Option.some.injEq] at hr
    subst hr
    exact (nearest_Bd 0 s m i (.inl h0) (by omega) (by omega)).mono (by omega)
  · rw [if_neg h0] at hr
    cases s
    · simp only [Bool.false_eq_true, if_false, Option.map_some, Option.some.injEq] at hr
      subst hr
      have hlt : (m.log2 : Int) + i < 129 := by rcases hm with h | h; exact absurd h h0; exact h
      generalize hmo : (2 * (Ieee.double.fractionBits + 2) - m.log2 + ((i - ((2 * (Ieee.double.fractionBits + 2) - m.log2 : Nat) : Int)) % 2).toNat) = more
      have hln : (m <<< more).log2 = m.log2 + more := by rw [Nat.shiftLeft_eq, log2_mul_pow m more h0]
      have hw := rootFrom_lt (m <<< more) ((m <<< more).log2 / 2 + 1) 0
      rw [hln] at hw ⊢
      generalize Ieee.Datum.rootFrom (m <<< more) ((m.log2 + more) / 2 + 1) 0 = whole at *
      refine (nearest_Bd 100 false _ _ ?_ (by omega) (by omega)).mono (by omega)
      by_cases hz : 2 * whole + (whole * whole != m <<< more).toNat = 0
      · exact .inl hz
      · refine .inr ?_
        have hb : (whole * whole != m <<< more).toNat ≤ 1 := by cases (whole * whole != m <<< more) <;> decide
        have hl : (2 * whole + (whole * whole != m <<< more).toNat).log2 < (m.log2 + more) / 2 + 3 := by
          refine (Nat.log2_lt hz).2 ?_
          have : 2 ^ ((m.log2 + more) / 2 + 3) = 2 ^ ((m.log2 + more) / 2 + 1) * 4 := by rw [show (m.log2 + more) / 2 + 3 = (m.log2 + more) / 2 + 1 + 2 by omega, Nat.pow_add]
          omega
        generalize (2 * whole + (whole * whole != m <<< more).toNat).log2 = l at *
        omega
    · simp at hr
end Go.Proofs.Ytabdinmodopadab
