/- Bounds that rounding keeps: at most 2 to the power of K. -/
import Derived.Test.YtgbjadckgfeimacLogN
namespace Go.Proofs.Ytgbjadckgfeimac

/-- m times 2 to the power of e is at most 2 to the power of K -/
def Le (K : Int) (m : Nat) (e : Int) : Prop := m = 0 ∨ (e ≤ K ∧ m ≤ 2 ^ (K - e).toNat)
def Bl (K : Int) (b : Nat) : Prop := ∃ s m e, Ieee.double.read b = .number s m e ∧ Le K m e

theorem Bl.mono {K L : Int} {b : Nat} (h : Bl K b) (hl : K ≤ L) : Bl L b := by
  obtain ⟨s, m, e, hr, hm⟩ := h
  refine ⟨s, m, e, hr, ?_⟩
  rcases hm with hm | ⟨h1, h2⟩
  · exact .inl hm
  · exact .inr ⟨by omega, Nat.le_trans h2 (Nat.pow_le_pow_right (by decide) (by omega))⟩

theorem Lt_of_lt {K : Int} {m : Nat} {e : Int} (hm : m ≠ 0) (he : e ≤ K) (h : m < 2 ^ (K - e).toNat) : (m.log2 : Int) + e < K := by
  have := (Nat.log2_lt hm).2 h
  omega

/-- what is less than 2 to the power of K is, rounded, at most that -/
theorem near_lt {K : Int} (s : Bool) {m : Nat} {e : Int} (hm : m ≠ 0) (h : (m.log2 : Int) + e < K) (h0 : -900 ≤ K) (h1 : K ≤ 900) : Bl K (Ieee.double.nearest s m e) := by
  obtain ⟨r, hr, hle⟩ := nearest_rung Ieee.double s m e hm
  rw [double_binade, double_least, double_fraction] at hle
  have hT : (max (e + (m.log2 : Int) - 52) (-1074) - -1074).toNat ≤ 2040 := by omega
  have hTK : ((max (e + (m.log2 : Int) - 52) (-1074) - -1074).toNat : Int) ≤ K + 1021 := by omega
  generalize (max (e + (m.log2 : Int) - 52) (-1074) - -1074).toNat = T at *
  obtain ⟨g1, g2⟩ := rung_num T r hle hT
  rw [double_inf, Nat.min_eq_left (by omega)] at hr
  have hsw : Ieee.double.signWeight = 9223372036854775808 := double_sw
  have hmod : (Ieee.double.word s r) % Ieee.double.signWeight = r := word_mod _ _ _ (by rw [hsw]; omega)
  have hread := read_fin Ieee.double (Ieee.double.word s r) (by rw [hmod, double_inf]; exact g1)
  rw [hmod] at hread
  rw [hr]
  refine ⟨_, _, _, hread, ?_⟩
  have hex : ex Ieee.double r = r / 4503599627370496 - 1 := by unfold ex; rw [double_binade]
  rw [double_least, hex]
  refine .inr ⟨by omega, ?_⟩
  by_cases hq : r / 4503599627370496 = T + 2
  · have hmg : mg Ieee.double r = 4503599627370496 := by
      rw [pos_mg r (by omega)]; omega
    rw [hmg]
    exact Nat.le_trans (show 4503599627370496 ≤ 2 ^ 52 by decide) (Nat.pow_le_pow_right (by decide) (by omega))
  · have := double_mg r
    exact Nat.le_trans (Nat.le_of_lt this) (Nat.le_trans (show 9007199254740992 ≤ 2 ^ 53 by decide) (Nat.pow_le_pow_right (by decide) (by omega)))

theorem pow_log2 (k : Nat) : (2 ^ k).log2 = k := by
  have := log2_mul_pow 1 k (by decide)
  rw [Nat.one_mul] at this
  rw [this]
  show 0 + k = k
  omega

/-- a power of two is rounded to itself -/
theorem near_pow {K : Int} (s : Bool) {m : Nat} {e : Int} (he : e ≤ K) (hm : m = 2 ^ (K - e).toNat) (h0 : -900 ≤ K) (h1 : K ≤ 900) : Bl K (Ieee.double.nearest s m e) := by
  have hm0 : m ≠ 0 := by rw [hm]; exact Nat.ne_of_gt (Nat.two_pow_pos _)
  have hl : m.log2 = (K - e).toNat := by rw [hm]; exact pow_log2 _
  have hlast : max (e + (m.log2 : Int) - 52) (-1074) = K - 52 := by rw [hl]; omega
  have hkept : Ieee.Toward.even.cut s (m <<< (e - (K - 52)).toNat) (K - 52 - e).toNat = 4503599627370496 := by
    by_cases hd : K - 52 ≤ e
    · rw [show (K - 52 - e).toNat = 0 by omega, cut_zero, Nat.shiftLeft_eq, hm, ← Nat.pow_add, show (K - e).toNat + (e - (K - 52)).toNat = 52 by omega]
    · rw [show (e - (K - 52)).toNat = 0 by omega, Nat.shiftLeft_zero, hm]
      unfold Ieee.Toward.cut
      simp only [Nat.one_shiftLeft, pow_log2]
      rw [Nat.min_eq_left (by omega)]
      have hp : 2 ^ (K - e).toNat = 2 ^ 52 * 2 ^ (K - 52 - e).toNat := by rw [← Nat.pow_add]; congr 1; omega
      rw [hp, Nat.mul_mod_left, Nat.mul_div_cancel _ (Nat.two_pow_pos _)]
      simp
  have hn : Ieee.double.nearest s m e = Ieee.double.word s (min ((K - 52 - -1074).toNat * 4503599627370496 + 4503599627370496) 9218868437227405312) := by
    unfold Ieee.Format.nearest
    rw [if_neg hm0]
    simp only [double_least, double_fraction, double_binade, double_inf, hlast, hkept]
  have hTb : (K - 52 - -1074).toNat ≤ 1922 := by omega
  have hTe : ((K - 52 - -1074).toNat : Int) = K + 1022 := by omega
  generalize (K - 52 - -1074).toNat = T at *
  rw [Nat.min_eq_left (by omega)] at hn
  have hsw : Ieee.double.signWeight = 9223372036854775808 := double_sw
  have hmod : (Ieee.double.word s (T * 4503599627370496 + 4503599627370496)) % Ieee.double.signWeight = T * 4503599627370496 + 4503599627370496 := word_mod _ _ _ (by rw [hsw]; omega)
  have hread := read_fin Ieee.double (Ieee.double.word s (T * 4503599627370496 + 4503599627370496)) (by rw [hmod, double_inf]; omega)
  rw [hmod] at hread
  rw [hn]
  refine ⟨_, _, _, hread, .inr ?_⟩
  have hex : ex Ieee.double (T * 4503599627370496 + 4503599627370496) = T := by
    unfold ex; rw [double_binade]; omega
  have hmg : mg Ieee.double (T * 4503599627370496 + 4503599627370496) = 4503599627370496 := by
    rw [pos_mg _ (by omega)]; omega
  rw [double_least, hex, hmg]
  exact ⟨by omega, Nat.le_trans (show 4503599627370496 ≤ 2 ^ 52 by decide) (Nat.pow_le_pow_right (by decide) (by omega))⟩

theorem near_Le0 {K : Int} (s : Bool) {m : Nat} {e : Int} (h : m = 0) : Bl K (Ieee.double.nearest s m e) := by
  subst h
  refine ⟨s, 0, Ieee.double.leastPlace, ?_, .inl rfl⟩
  unfold Ieee.Format.nearest
  rw [if_pos rfl]
  cases s <;> rfl
theorem near_Le {K : Int} (s : Bool) {m : Nat} {e : Int} (h : Le K m e) (h0 : -900 ≤ K) (h1 : K ≤ 900) : Bl K (Ieee.double.nearest s m e) := by
  rcases h with h | ⟨he, hm⟩
  · exact near_Le0 s h
  · by_cases hz : m = 0
    · exact near_Le0 s hz
    · rcases Nat.lt_or_ge m (2 ^ (K - e).toNat) with hlt | hge
      · exact near_lt s hz (Lt_of_lt hz he hlt) h0 h1
      · exact near_pow s he (Nat.le_antisymm hm hge) h0 h1

theorem mul_Bl {K L : Int} {x y : Nat} (hx : Bl K x) (hy : Bl L y) (h0 : -900 ≤ K + L) (h1 : K + L ≤ 900) : Bl (K + L) (fop .mul .f64 x y) := by
  obtain ⟨s, m, i, hm, hml⟩ := hx
  obtain ⟨t, n, j, hn, hnl⟩ := hy
  have e : floatBits .mul .f64 x y = some (Ieee.double.nearest (s ^^ t) (m * n) (i + j)) := by
    show Ieee.double.mul x y = _
    unfold Ieee.Format.mul
    rw [hm, hn]
    rfl
  rw [fop, e, Option.getD_some]
  refine near_Le _ ?_ h0 h1
  rcases hml with h | ⟨a1, a2⟩
  · exact .inl (by rw [h, Nat.zero_mul])
  · rcases hnl with h | ⟨b1, b2⟩
    · exact .inl (by rw [h, Nat.mul_zero])
    · refine .inr ⟨by omega, ?_⟩
      have := Nat.mul_le_mul a2 b2
      rw [← Nat.pow_add, show (K - i).toNat + (L - j).toNat = (K + L - (i + j)).toNat by omega] at this
      exact this

theorem part_le {K : Int} {m : Nat} {i b : Int} (h : Le K m i) (hb : b ≤ i) : m * 2 ^ (i - b).toNat ≤ 2 ^ (K - b).toNat := by
  rcases h with h | ⟨h1, h2⟩
  · rw [h, Nat.zero_mul]; exact Nat.zero_le _
  · have := Nat.mul_le_mul_right (2 ^ (i - b).toNat) h2
    rw [← Nat.pow_add, show (K - i).toNat + (i - b).toNat = (K - b).toNat by omega] at this
    exact this

theorem sum_le (A B : Int) (P : Nat) (ha : A.natAbs ≤ P) (hb : B.natAbs ≤ P) : (A + B).natAbs ≤ P * 2 := by omega

theorem add_Bl {K : Int} {x y : Nat} (hx : Bl K x) (hy : Bl K y) (h0 : -900 ≤ K) (h1 : K ≤ 800) : Bl (K + 1) (fop .add .f64 x y) := by
  obtain ⟨s, m, i, hm, hml⟩ := hx
  obtain ⟨t, n, j, hn, hnl⟩ := hy
  have e : floatBits .add .f64 x y = some (Ieee.double.nearest (if Ieee.signed s m (i - min i j).toNat + Ieee.signed t n (j - min i j).toNat = 0 then s && t else decide (Ieee.signed s m (i - min i j).toNat + Ieee.signed t n (j - min i j).toNat < 0)) (Ieee.signed s m (i - min i j).toNat + Ieee.signed t n (j - min i j).toNat).natAbs (min i j)) := by
    show Ieee.double.add x y = _
    unfold Ieee.Format.add
    rw [hm, hn]
    rfl
  rw [fop, e, Option.getD_some]
  refine near_Le _ ?_ (by omega) (by omega)
  have p1 := part_le hml (Int.min_le_left i j)
  have p2 := part_le hnl (Int.min_le_right i j)
  rw [← signed_abs s] at p1
  rw [← signed_abs t] at p2
  have p3 := sum_le _ _ _ p1 p2
  by_cases hK : min i j ≤ K
  · refine .inr ⟨by omega, Nat.le_trans p3 ?_⟩
    rw [← Nat.pow_succ]
    exact Nat.pow_le_pow_right (by decide) (by omega)
  · have z1 : m = 0 := by rcases hml with h | h; exact h; omega
    have z2 : n = 0 := by rcases hnl with h | h; exact h; omega
    refine .inl ?_
    rw [z1, z2]
    unfold Ieee.signed
    simp

def leB (K : Int) (b : Nat) : Bool := match Ieee.double.read b with
  | .number _ m e => m == 0 || (decide (e ≤ K) && decide (m ≤ 2 ^ (K - e).toNat))
  | _ => false
theorem Bl_of_B {K : Int} {b : Nat} (h : leB K b = true) : Bl K b := by
  unfold leB at h
  split at h
  · rename_i s m e hr
    refine ⟨s, m, e, hr, ?_⟩
    simp at h
    exact h
  · cases h

theorem part_Bl (j : Nat) (h : j < 13) : Bl 0 (fop .quo .f64 4607182418800017408 (fi (25 - 2 * (j : Int)))) := by
  have : ∀ j, j < 13 → leB 0 (fop .quo .f64 4607182418800017408 (fi (25 - 2 * ((j : Nat) : Int)))) = true := by decide +kernel
  exact Bl_of_B (this j h)
theorem fi_Bl' : ∀ k, k < 401 → leB 8 (fi (200 - (k : Nat))) = true := by decide +kernel
theorem fi_Bl (n : Int) (h0 : -200 ≤ n) (h1 : n ≤ 200) : Bl 8 (fi n) := by
  have := Bl_of_B (fi_Bl' (200 - n).toNat (by omega))
  rw [show 200 - ((200 - n).toNat : Int) = n by omega] at this
  exact this

theorem q_Bl {u : Nat} (hu : Bl 0 u) : ∀ j : Nat, j ≤ 13 → Bl ((j : Int) + 1) (qTo u j)
  | 0, _ => (Bl_of_B (show leB 1 0 = true by decide +kernel)).mono (by omega)
  | j + 1, h => by
    have h2 := mul_Bl hu (q_Bl hu j (by omega)) (by omega) (by omega)
    exact (add_Bl ((part_Bl j (by omega)).mono (show (0 : Int) ≤ (j : Int) + 1 by omega)) (h2.mono (show 0 + ((j : Int) + 1) ≤ (j : Int) + 1 by omega)) (by omega) (by omega)).mono (by omega)

theorem quo_Bl {x y : Nat} {n : Nat} {j : Int} (hx : Bd 0 x) (hy : Ieee.double.read y = .number false n j) (hn : n ≠ 0) (hl : 0 ≤ (n.log2 : Int) + j) : Bl 0 (fop .quo .f64 x y) := by
  obtain ⟨s, m, i, hm, hml⟩ := hx
  have hmb := read_mant hm
  have e : floatBits .quo .f64 x y = some (Ieee.double.nearest (s ^^ false) (2 * (m <<< (54 + n.log2 - m.log2) / n) + (m <<< (54 + n.log2 - m.log2) % n != 0).toNat) (i - j - (54 + n.log2 - m.log2 : Nat) - 1)) := by
    show Ieee.double.div x y = _
    unfold Ieee.Format.div
    rw [hm, hy]
    simp only [Ieee.Datum.quotient]
    rw [if_neg hn]
    rfl
  rw [fop, e, Option.getD_some]
  by_cases hz : 2 * (m <<< (54 + n.log2 - m.log2) / n) + (m <<< (54 + n.log2 - m.log2) % n != 0).toNat = 0
  · exact near_Le0 _ hz
  · refine near_lt _ hz ?_ (by omega) (by omega)
    have hm0 : m ≠ 0 := by
      intro h
      apply hz
      rw [h]
      simp
    have a1 : (m.log2 : Int) + i < 0 := by rcases hml with h | h; exact absurd h hm0; exact h
    have hlm : m.log2 < 53 := (Nat.log2_lt hm0).2 hmb
    generalize hmo : 54 + n.log2 - m.log2 = more at *
    rw [Nat.shiftLeft_eq] at *
    have d1 : m * 2 ^ more < 2 ^ (m.log2 + 1 + more) := by
      rw [Nat.pow_add]
      exact Nat.mul_lt_mul_of_pos_right Nat.lt_log2_self (Nat.two_pow_pos _)
    have d2 : m * 2 ^ more / n < 2 ^ (m.log2 + 1 + more - n.log2) := by
      rw [Nat.div_lt_iff_lt_mul (by omega)]
      have d3 : 2 ^ (m.log2 + 1 + more - n.log2) * 2 ^ n.log2 ≤ 2 ^ (m.log2 + 1 + more - n.log2) * n := Nat.mul_le_mul_left _ (Nat.log2_self_le hn)
      rw [← Nat.pow_add, show m.log2 + 1 + more - n.log2 + n.log2 = m.log2 + 1 + more by omega] at d3
      omega
    have hb : (m * 2 ^ more % n != 0).toNat ≤ 1 := by cases (m * 2 ^ more % n != 0) <;> decide
    have d4 : (2 * (m * 2 ^ more / n) + (m * 2 ^ more % n != 0).toNat).log2 < m.log2 + 1 + more - n.log2 + 1 := by
      refine (Nat.log2_lt hz).2 ?_
      rw [Nat.pow_succ]
      omega
    omega

theorem sE_Bl {r : Nat} (h0 : 4604930618986332160 ≤ r) (h1 : r < 4609434218613702656) : Bl 0 (sE r) := by
  obtain ⟨n, j, hr, hn, _, hl⟩ := add_one h0 h1
  exact quo_Bl (sub_one h0 h1) hr hn hl

theorem lgE_Bl {r : Nat} (hr : InR r) : Bl 16 (lgE (x2 r) (fi (en r))) := by
  obtain ⟨h0, h1⟩ := x2_range hr
  have hs := sE_Bl h0 h1
  have hu := mul_Bl hs hs (by omega) (by omega)
  have hq := q_Bl (u := fop .mul .f64 (sE (x2 r)) (sE (x2 r))) hu 13 (by omega)
  have hsq := mul_Bl hs hq (by omega) (by omega)
  have h2 := mul_Bl (Bl_of_B (show leB 1 4611686018427387904 = true by decide +kernel)) hsq (by omega) (by omega)
  have b1 := nh_le hr
  have b2 := nd_le hr
  have he := fi_Bl (en r) (by unfold en; omega) (by unfold en; omega)
  have hec := mul_Bl he (Bl_of_B (show leB 0 4604418534313441775 = true by decide +kernel)) (by omega) (by omega)
  exact (add_Bl (h2.mono (show _ ≤ (15 : Int) by omega)) (hec.mono (show _ ≤ (15 : Int) by omega)) (by omega) (by omega)).mono (by omega)

/-- the tenths before they are cut down -/
def tnE (x e : Nat) : Nat := fop .add .f64 (fop .mul .f64 (lgE x e) 4631308968768463603) 4602678819172646912
end Go.Proofs.Ytgbjadckgfeimac
