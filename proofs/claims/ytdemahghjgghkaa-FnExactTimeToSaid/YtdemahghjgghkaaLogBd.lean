/- A logarithm is small: it is narrowed to a finite number. -/
import Derived.Test.YtdemahghjgghkaaLog
namespace Go.Proofs.Ytdemahghjgghkaa

theorem mul_Bd {K L : Int} {x y : Nat} (hx : Bd K x) (hy : Bd L y) (h0 : -1000 ≤ K + L) (h1 : K + L ≤ 1000) : Bd (K + L + 1) (fop .mul .f64 x y) := by
  obtain ⟨s, m, i, hm, hml⟩ := hx
  obtain ⟨t, n, j, hn, hnl⟩ := hy
  have e : floatBits .mul .f64 x y = some (Ieee.double.nearest (s ^^ t) (m * n) (i + j)) := by
    show Ieee.double.mul x y = _
    unfold Ieee.Format.mul
    rw [hm, hn]
    rfl
  rw [fop, e]
  refine nearest_Bd (K + L) _ _ _ ?_ h0 h1
  by_cases hz : m * n = 0
  · exact .inl hz
  · have hm0 : m ≠ 0 := fun h => hz (by rw [h, Nat.zero_mul])
    have hn0 : n ≠ 0 := fun h => hz (by rw [h, Nat.mul_zero])
    refine .inr ?_
    have a1 : (m.log2 : Int) + i < K := by rcases hml with h | h; exact absurd h hm0; exact h
    have a2 : (n.log2 : Int) + j < L := by rcases hnl with h | h; exact absurd h hn0; exact h
    have a3 : (m * n).log2 < m.log2 + 1 + (n.log2 + 1) := by
      refine (Nat.log2_lt hz).2 ?_
      rw [Nat.pow_add]
      exact Nat.mul_lt_mul'' Nat.lt_log2_self Nat.lt_log2_self
    omega

theorem signed_abs (s : Bool) (m u : Nat) : (Ieee.signed s m u).natAbs = m * 2 ^ u := by
  unfold Ieee.signed
  rw [Nat.shiftLeft_eq]
  cases s
  · rw [if_neg (by decide)]; exact Int.natAbs_natCast _
  · rw [if_pos rfl, Int.natAbs_neg]; exact Int.natAbs_natCast _

theorem part_lt {K : Int} {m : Nat} {i b : Int} (h : Lt K m i) (hb : b ≤ i) (hK : b < K) : m * 2 ^ (i - b).toNat < 2 ^ (K - b).toNat := by
  rcases h with h | h
  · rw [h, Nat.zero_mul]; exact Nat.two_pow_pos _
  · have h1 : m < 2 ^ (m.log2 + 1) := Nat.lt_log2_self
    have h2 : m * 2 ^ (i - b).toNat < 2 ^ (m.log2 + 1) * 2 ^ (i - b).toNat := Nat.mul_lt_mul_of_pos_right h1 (Nat.two_pow_pos _)
    rw [← Nat.pow_add] at h2
    exact Nat.lt_of_lt_of_le h2 (Nat.pow_le_pow_right (by decide) (by omega))

theorem add_Bd {K : Int} {x y : Nat} (hx : Bd K x) (hy : Bd K y) (h0 : -1000 ≤ K) (h1 : K ≤ 900) : Bd (K + 2) (fop .add .f64 x y) := by
  obtain ⟨s, m, i, hm, hml⟩ := hx
  obtain ⟨t, n, j, hn, hnl⟩ := hy
  have e : ∃ sg, floatBits .add .f64 x y = some (Ieee.double.nearest sg (Ieee.signed s m (i - min i j).toNat + Ieee.signed t n (j - min i j).toNat).natAbs (min i j)) := by
    refine ⟨if Ieee.signed s m (i - min i j).toNat + Ieee.signed t n (j - min i j).toNat = 0 then s && t else decide (Ieee.signed s m (i - min i j).toNat + Ieee.signed t n (j - min i j).toNat < 0), ?_⟩
    show Ieee.double.add x y = _
    unfold Ieee.Format.add
    rw [hm, hn]
    rfl
  obtain ⟨sg, e⟩ := e
  rw [fop, e]
  show Bd (K + 2) (Ieee.double.nearest sg _ _)
  have hlt : Lt (K + 1) (Ieee.signed s m (i - min i j).toNat + Ieee.signed t n (j - min i j).toNat).natAbs (min i j) := by
    by_cases hz : (Ieee.signed s m (i - min i j).toNat + Ieee.signed t n (j - min i j).toNat).natAbs = 0
    · exact .inl hz
    · refine .inr ?_
      have b1 := signed_abs s m (i - min i j).toNat
      have b2 := signed_abs t n (j - min i j).toNat
      by_cases hK : min i j < K
      · have p1 := part_lt hml (Int.min_le_left i j) hK
        have p2 := part_lt hnl (Int.min_le_right i j) hK
        rw [← b1] at p1
        rw [← b2] at p2
        have p3 : (Ieee.signed s m (i - min i j).toNat + Ieee.signed t n (j - min i j).toNat).natAbs < 2 ^ ((K - min i j).toNat + 1) := by
          rw [Nat.pow_succ]
          have := Int.natAbs_add_le (Ieee.signed s m (i - min i j).toNat) (Ieee.signed t n (j - min i j).toNat)
          omega
        have := (Nat.log2_lt hz).2 p3
        omega
      · exfalso
        have z1 : m = 0 := by rcases hml with h | h; exact h; omega
        have z2 : n = 0 := by rcases hnl with h | h; exact h; omega
        apply hz
        rw [z1] at b1
        rw [z2] at b2
        rw [Nat.zero_mul] at b1 b2
        have c1 := Int.natAbs_eq_zero.1 b1
        have c2 := Int.natAbs_eq_zero.1 b2
        rw [z1, z2, c1, c2]
        rfl
  have := nearest_Bd (K + 1) sg _ _ hlt (by omega) (by omega)
  rw [show K + 2 = K + 1 + 1 by omega]
  exact this

/-- the bound, reckoned -/
def bdB (K : Int) (b : Nat) : Bool := match Ieee.double.read b with
  | .number _ m e => m == 0 || decide ((m.log2 : Int) + e < K)
  | _ => false
theorem Bd_of_B {K : Int} {b : Nat} (h : bdB K b = true) : Bd K b := by
  unfold bdB at h
  split at h
  · rename_i s m e hr
    refine ⟨s, m, e, hr, ?_⟩
    simp at h
    exact h
  · cases h

theorem part_Bd (j : Nat) (h : j < 13) : Bd 1 (fop .quo .f64 4607182418800017408 (fi (25 - 2 * (j : Int)))) := by
  have : ∀ j, j < 13 → bdB 1 (fop .quo .f64 4607182418800017408 (fi (25 - 2 * ((j : Nat) : Int)))) = true := by decide +kernel
  exact Bd_of_B (this j h)
theorem fi_Bd' : ∀ k, k < 401 → bdB 9 (fi (200 - (k : Nat))) = true := by decide +kernel
theorem fi_Bd (n : Int) (h0 : -200 ≤ n) (h1 : n ≤ 200) : Bd 9 (fi n) := by
  have := Bd_of_B (fi_Bd' (200 - n).toNat (by omega))
  rw [show 200 - ((200 - n).toNat : Int) = n by omega] at this
  exact this

theorem q_Bd {u : Nat} (hu : Bd 3 u) : ∀ j : Nat, j ≤ 13 → Bd (6 * (j : Int) + 1) (qTo u j)
  | 0, _ => (Bd_of_B (show bdB 1 0 = true by decide +kernel)).mono (by omega)
  | j + 1, h => by
    have h1 := q_Bd hu j (by omega)
    have h2 := mul_Bd hu h1 (by omega) (by omega)
    have h3 := (part_Bd j (by omega)).mono (show (1 : Int) ≤ 3 + (6 * (j : Int) + 1) + 1 by omega)
    have h4 := add_Bd h3 h2 (by omega) (by omega)
    rw [qTo]
    exact h4.mono (by omega)

/-! The quotient of x less 1 and x plus 1. -/
theorem near_read (r : Nat) (h0 : 4604930618986332160 ≤ r) (h1 : r < 4609434218613702656) :
    ∃ m : Nat, ∃ p : Int, Ieee.double.read r = .number false m p ∧ ((p = -53 ∧ 6755399441055744 ≤ m ∧ m < 9007199254740992) ∨ (p = -52 ∧ 4503599627370496 ≤ m ∧ m < 6755399441055744)) := by
  have hr := pos_read r (by omega)
  rw [pos_mg r (by omega)] at hr
  refine ⟨_, _, hr, ?_⟩
  by_cases h : r < 4607182418800017408
  · left; omega
  · right; omega

theorem sub_one {r : Nat} (h0 : 4604930618986332160 ≤ r) (h1 : r < 4609434218613702656) : Bd 0 (fop .sub .f64 r 4607182418800017408) := by
  obtain ⟨m, p, hr, hm⟩ := near_read r h0 h1
  have e : ∃ sg, floatBits .sub .f64 r 4607182418800017408 = some (Ieee.double.nearest sg (Ieee.signed false m (p - min p (-52)).toNat + Ieee.signed true 4503599627370496 (-52 - min p (-52)).toNat).natAbs (min p (-52))) := by
    refine ⟨if Ieee.signed false m (p - min p (-52)).toNat + Ieee.signed true 4503599627370496 (-52 - min p (-52)).toNat = 0 then false && true else decide (Ieee.signed false m (p - min p (-52)).toNat + Ieee.signed true 4503599627370496 (-52 - min p (-52)).toNat < 0), ?_⟩
    show Ieee.double.sub r 4607182418800017408 = _
    unfold Ieee.Format.sub
    rw [hr, one_read]
    rfl
  obtain ⟨sg, e⟩ := e
  rw [fop, e]
  show Bd 0 (Ieee.double.nearest sg _ _)
  refine nearest_Bd (-1) sg _ _ ?_ (by omega) (by omega)
  rcases hm with ⟨rfl, a, b⟩ | ⟨rfl, a, b⟩
  · have e1 : (Ieee.signed false m ((-53 : Int) - min (-53) (-52)).toNat + Ieee.signed true 4503599627370496 ((-52 : Int) - min (-53) (-52)).toNat).natAbs = 9007199254740992 - m := by
      have t1 : ((-53 : Int) - min (-53) (-52)).toNat = 0 := by omega
      have t2 : ((-52 : Int) - min (-53) (-52)).toNat = 1 := by omega
      rw [t1, t2]
      simp only [Ieee.signed, Nat.shiftLeft_eq]
      simp
      omega
    rw [e1]
    by_cases hz : 9007199254740992 - m = 0
    · exact .inl hz
    · refine .inr ?_
      have : (9007199254740992 - m).log2 < 52 := (Nat.log2_lt hz).2 (by omega)
      omega
  · have e1 : (Ieee.signed false m ((-52 : Int) - min (-52) (-52)).toNat + Ieee.signed true 4503599627370496 ((-52 : Int) - min (-52) (-52)).toNat).natAbs = m - 4503599627370496 := by
      have t1 : ((-52 : Int) - min (-52) (-52)).toNat = 0 := by omega
      rw [t1]
      simp only [Ieee.signed, Nat.shiftLeft_eq]
      simp
      omega
    rw [e1]
    by_cases hz : m - 4503599627370496 = 0
    · exact .inl hz
    · refine .inr ?_
      have : (m - 4503599627370496).log2 < 51 := (Nat.log2_lt hz).2 (by omega)
      omega

/-- a sum that is 1 at least is 1 at least when it is rounded -/
theorem near_low (T : Nat) (b : Int) (h0 : 9007199254740992 ≤ T) (h1 : T < 18014398509481984) (hb : -53 ≤ b) (hb1 : b ≤ -52) :
    ∃ n : Nat, ∃ j : Int, Ieee.double.read (Ieee.double.nearest false T b) = .number false n j ∧ n ≠ 0 ∧ n < 9007199254740992 ∧ 0 ≤ (n.log2 : Int) + j := by
  have hl : T.log2 = 53 := (Nat.log2_eq_iff (by omega)).2 ⟨by omega, by omega⟩
  have e1 : max (b + (T.log2 : Int) - 52) (-1074) = b + 1 := by rw [hl]; omega
  have e2 : (b - (b + 1)).toNat = 0 := by omega
  have e3 : (b + 1 - b).toNat = 1 := by omega
  have hc := even_cut_le false T 1
  have hc2 : T / 2 ≤ Ieee.Toward.even.cut false T 1 := by
    unfold Ieee.Toward.cut
    simp only [Nat.one_shiftLeft, hl]
    exact Nat.le_add_right _ _
  rw [hl] at hc
  have hc3 : Ieee.Toward.even.cut false T 1 ≤ T / 2 + 1 := hc
  have hn : Ieee.double.nearest false T b = min ((b + 1 - -1074).toNat * 4503599627370496 + Ieee.Toward.even.cut false T 1) 9218868437227405312 := by
    unfold Ieee.Format.nearest
    rw [if_neg (by omega)]
    simp only [double_least, double_fraction, double_binade, double_inf, e1, e2, e3, Nat.shiftLeft_zero, Ieee.Format.word, Bool.false_eq_true, if_false]
  generalize Ieee.Toward.even.cut false T 1 = C at *
  have hq : (b + 1 - -1074).toNat = 1022 ∨ (b + 1 - -1074).toNat = 1023 := by omega
  have hqb : ((b + 1 - -1074).toNat : Int) = b + 1075 := by omega
  generalize (b + 1 - -1074).toNat = q at *
  have hlt : q * 4503599627370496 + C < 9218868437227405312 := by omega
  rw [Nat.min_eq_left (by omega)] at hn
  rw [hn]
  have hr := pos_read (q * 4503599627370496 + C) hlt
  have hm := log2_mg (q * 4503599627370496 + C) (by omega)
  refine ⟨_, _, hr, ?_, double_mg _, ?_⟩
  · intro h
    rw [h] at hm
    exact absurd hm (by decide)
  · rw [hm]; omega

theorem add_one {r : Nat} (h0 : 4604930618986332160 ≤ r) (h1 : r < 4609434218613702656) :
    ∃ n : Nat, ∃ j : Int, Ieee.double.read (fop .add .f64 r 4607182418800017408) = .number false n j ∧ n ≠ 0 ∧ n < 9007199254740992 ∧ 0 ≤ (n.log2 : Int) + j := by
  obtain ⟨m, p, hr, hm⟩ := near_read r h0 h1
  rcases hm with ⟨rfl, a, b⟩ | ⟨rfl, a, b⟩
  · have e : floatBits .add .f64 r 4607182418800017408 = some (Ieee.double.nearest false (m + 9007199254740992) (-53)) := by
      show Ieee.double.add r 4607182418800017408 = _
      unfold Ieee.Format.add
      rw [hr, one_read]
      simp only [Ieee.Datum.sum, Option.map_some, Option.some.injEq, Ieee.Format.write]
      have t0 : min (-53 : Int) (-52) = -53 := by omega
      have t1 : ((-53 : Int) - -53).toNat = 0 := by omega
      have t2 : ((-52 : Int) - -53).toNat = 1 := by omega
      rw [t0, t1, t2]
      have e1 : Ieee.signed false m 0 + Ieee.signed false 4503599627370496 1 = ((m + 9007199254740992 : Nat) : Int) := by
        simp only [Ieee.signed, Nat.shiftLeft_eq]
        simp
      rw [e1, if_neg (by omega), Int.natAbs_natCast, decide_eq_false (by omega)]
    rw [fop, e, Option.getD_some]
    exact near_low _ _ (by omega) (by omega) (by omega) (by omega)
  · have e : floatBits .add .f64 r 4607182418800017408 = some (Ieee.double.nearest false (m + 4503599627370496) (-52)) := by
      show Ieee.double.add r 4607182418800017408 = _
      unfold Ieee.Format.add
      rw [hr, one_read]
      simp only [Ieee.Datum.sum, Option.map_some, Option.some.injEq, Ieee.Format.write]
      have t0 : min (-52 : Int) (-52) = -52 := by omega
      have t1 : ((-52 : Int) - -52).toNat = 0 := by omega
      rw [t0, t1]
      have e1 : Ieee.signed false m 0 + Ieee.signed false 4503599627370496 0 = ((m + 4503599627370496 : Nat) : Int) := by
        simp only [Ieee.signed, Nat.shiftLeft_eq]
        simp
      rw [e1, if_neg (by omega), Int.natAbs_natCast, decide_eq_false (by omega)]
    rw [fop, e, Option.getD_some]
    exact near_low _ _ (by omega) (by omega) (by omega) (by omega)

theorem quo_Bd {x y : Nat} {n : Nat} {j : Int} (hx : Bd 0 x) (hy : Ieee.double.read y = .number false n j) (hn : n ≠ 0) (hl : 0 ≤ (n.log2 : Int) + j) (hxm : ∀ s m e, Ieee.double.read x = .number s m e → m < 9007199254740992) : Bd 1 (fop .quo .f64 x y) := by
  obtain ⟨s, m, i, hm, hml⟩ := hx
  have hmb := hxm s m i hm
  have e : floatBits .quo .f64 x y = some (Ieee.double.nearest (s ^^ false) (2 * (m <<< (54 + n.log2 - m.log2) / n) + (m <<< (54 + n.log2 - m.log2) % n != 0).toNat) (i - j - (54 + n.log2 - m.log2 : Nat) - 1)) := by
    show Ieee.double.div x y = _
    unfold Ieee.Format.div
    rw [hm, hy]
    simp only [Ieee.Datum.quotient]
    rw [if_neg hn]
    rfl
  rw [fop, e, Option.getD_some]
  refine nearest_Bd 0 _ _ _ ?_ (by omega) (by omega)
  by_cases hz : 2 * (m <<< (54 + n.log2 - m.log2) / n) + (m <<< (54 + n.log2 - m.log2) % n != 0).toNat = 0
  · exact .inl hz
  · refine .inr ?_
    have hm0 : m ≠ 0 := by
      intro h
      apply hz
      rw [h]
      simp
    have a1 : (m.log2 : Int) + i < 0 := by rcases hml with h | h; exact absurd h hm0; exact h
    have hlm : m.log2 < 53 := (Nat.log2_lt hm0).2 hmb
    generalize hmo : 54 + n.log2 - m.log2 = more at *
    rw [Nat.shiftLeft_eq] at *
    have d1 : m * 2 ^ more < 2 ^ (m.log2 + 1 + more) := by
      rw [Nat.pow_add]
      exact Nat.mul_lt_mul_of_pos_right Nat.lt_log2_self (Nat.two_pow_pos _)
    have d2 : m * 2 ^ more / n < 2 ^ (m.log2 + 1 + more - n.log2) := by
      rw [Nat.div_lt_iff_lt_mul (by omega)]
      have d3 : 2 ^ (m.log2 + 1 + more - n.log2) * 2 ^ n.log2 ≤ 2 ^ (m.log2 + 1 + more - n.log2) * n := Nat.mul_le_mul_left _ (Nat.log2_self_le hn)
      rw [← Nat.pow_add, show m.log2 + 1 + more - n.log2 + n.log2 = m.log2 + 1 + more by omega] at d3
      omega
    have hb : (m * 2 ^ more % n != 0).toNat ≤ 1 := by cases (m * 2 ^ more % n != 0) <;> decide
    have d4 : (2 * (m * 2 ^ more / n) + (m * 2 ^ more % n != 0).toNat).log2 < m.log2 + 1 + more - n.log2 + 1 := by
      refine (Nat.log2_lt hz).2 ?_
      rw [Nat.pow_succ]
      omega
    omega
end Go.Proofs.Ytdemahghjgghkaa
