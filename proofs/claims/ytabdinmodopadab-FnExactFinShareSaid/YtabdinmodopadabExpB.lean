/- The exponential function of numbers that are not greater than 0: a share, which narrowing tells. -/
import Derived.Test.YtabdinmodopadabExpP
import Derived.Test.YtabdinmodopadabFu
namespace Go.Proofs.Ytabdinmodopadab
open Go Go.RowKit
set_option linter.unusedVariables false

theorem up_lit {a r v : Nat} (h : UR a r) (hn : nn .f32 a = false) (hv : cvu a = v) : r = v := by
  have h1 := h.1
  rw [cn_of_num (by rw [nn_up h]; exact hn), cn_of_num hn, hv] at h1
  exact h1

theorem up_zero {a r : Nat} (ha : a = 0 ∨ a = 2147483648) (h : UR a r) : FloatKind.f64.format.order r r = some .eq ∧ FloatKind.f64.format.order r 0 = some .eq := by
  rcases ha with rfl | rfl
  · have := up_lit h (by decide +kernel) (show cvu 0 = 0 by decide +kernel)
    subst this
    decide +kernel
  · have := up_lit h (by decide +kernel) (show cvu 2147483648 = 9223372036854775808 by decide +kernel)
    subst this
    decide +kernel
theorem read_sign32 (a : Nat) : (FloatKind.f32.decode a).neg = (a / 2147483648 % 2 == 1) := by
  unfold FloatKind.decode Ieee.Format.read
  dsimp only
  rw [single_sw]
  repeat' split
  all_goals rfl
theorem nonzero32 {a : Nat} {s : Bool} {e : Int} (h : FloatKind.f32.decode a = .number s 0 e) : a % 2147483648 = 0 := by
  unfold FloatKind.decode Ieee.Format.read at h
  dsimp only at h
  rw [single_sw, show FloatKind.f32.format.binade = 8388608 from single_binade] at h
  split at h
  · simp only [Ieee.Datum.number.injEq] at h; omega
  · split at h
    · simp only [Ieee.Datum.number.injEq] at h; omega
    · split at h <;> simp at h

theorem near_pos (s : Bool) (m : Nat) (e : Int) (hz : m ≠ 0) (h0 : -1000 ≤ e) : ∃ k, Ieee.double.nearest s m e = Ieee.double.word s k ∧ 0 < k ∧ k ≤ Ieee.double.infRung := by
  unfold Ieee.Format.nearest
  rw [if_neg hz]
  refine ⟨_, rfl, ?_, Nat.min_le_right _ _⟩
  rw [double_inf, double_binade, double_least, double_fraction]
  have : 1 ≤ (max (e + (m.log2 : Int) - 52) (-1074) - -1074).toNat := by omega
  refine Nat.lt_min.2 ⟨?_, by omega⟩
  have h2 : 1 * 4503599627370496 ≤ (max (e + (m.log2 : Int) - 52) (-1074) - -1074).toNat * 4503599627370496 := Nat.mul_le_mul_right _ this
  exact Nat.lt_of_lt_of_le (by omega) (Nat.le_trans h2 (Nat.le_add_right _ _))

theorem up_neg {a r : Nat} (h : UR a r) (ha : a < 4294967296) (h0 : 2147483648 < a) (hn : nn .f32 a = false) : FloatKind.f64.format.order r r = some .eq ∧ FloatKind.f64.format.order r 0 = some .lt := by
  have hr := nn_up h
  rw [hn] at hr
  refine ⟨by rw [order_self, hr]; rfl, ?_⟩
  have hk : ∃ k, r = 9223372036854775808 + k ∧ 0 < k ∧ k ≤ 9218868437227405312 := by
    obtain ⟨u, hu⟩ := up_some hn
    have e1 := up_lit h hn (show cvu a = u by rw [cvu, hu]; rfl)
    subst e1
    have hneg : (FloatKind.f32.decode a).neg = true := by
      rw [read_sign32, show a / 2147483648 % 2 = 1 by omega]; rfl
    unfold floatToFloatBits at hu
    rw [if_neg (by decide)] at hu
    split at hu
    · cases hu
    · rename_i s he
      rw [he] at hneg
      change s = true at hneg
      subst hneg
      cases hu
      exact ⟨9218868437227405312, by decide +kernel, by omega, by omega⟩
    · rename_i s m e he
      rw [he] at hneg
      change s = true at hneg
      subst hneg
      split at hu
      · cases hu
      · cases hu
        obtain ⟨hm, b0, b1⟩ := read_single_bounds (show Ieee.single.read a = _ from he)
        have hz : m ≠ 0 := by
          intro hz
          subst hz
          have hfr := nonzero32 he
          omega
        obtain ⟨k, hk, k0, k1⟩ := near_pos true m e hz (by omega)
        refine ⟨k, ?_, k0, by rw [double_inf] at k1; exact k1⟩
        show Ieee.double.nearest true m e = _
        rw [hk]
        unfold Ieee.Format.word
        rw [if_pos rfl, show Ieee.double.signWeight = 9223372036854775808 from double_sw]
  obtain ⟨k, rfl, k0, k1⟩ := hk
  rw [ord_key, hr, show nn .f64 0 = false by decide +kernel]
  have q1 : key FloatKind.f64.format (9223372036854775808 + k) = -(k : Int) := by
    unfold key
    rw [double_sw, Nat.add_mod_left, Nat.mod_eq_of_lt (show k < 9223372036854775808 by omega), show (9223372036854775808 + k) / 9223372036854775808 % 2 = 1 by omega]
    rfl
  rw [q1, key64_pos 0 (by omega)]
  simp only [Bool.or_self, Bool.false_eq_true, if_false, compare, compareOfLessAndEq]
  rw [if_pos (by omega)]
theorem near_sign (s : Bool) (m : Nat) (e : Int) {s' : Bool} {m' : Nat} {e' : Int} (h : Ieee.double.read (Ieee.double.nearest s m e) = .number s' m' e') : s' = s ∧ (m = 0 → m' = 0) := by
  by_cases hm : m = 0
  · subst hm
    unfold Ieee.Format.nearest at h
    rw [if_pos rfl] at h
    have : Ieee.double.read (Ieee.double.word s 0) = .number s 0 Ieee.double.leastPlace := by cases s <;> rfl
    rw [this] at h
    cases h; exact ⟨rfl, fun _ => rfl⟩
  · obtain ⟨r, hr, _⟩ := nearest_rung Ieee.double s m e hm
    rw [hr] at h
    have hk : min r Ieee.double.infRung ≤ 9218868437227405312 := Nat.le_trans (Nat.min_le_right _ _) (by rw [double_inf]; exact Nat.le_refl _)
    generalize min r Ieee.double.infRung = k at *
    have hsw : Ieee.double.signWeight = 9223372036854775808 := double_sw
    have hmod : (Ieee.double.word s k) % Ieee.double.signWeight = k := word_mod _ _ _ (by rw [hsw]; omega)
    have hw : Ieee.double.word s k = if s then 9223372036854775808 + k else k := by unfold Ieee.Format.word; rw [hsw]
    have hsg : (Ieee.double.word s k / Ieee.double.signWeight % 2 == 1) = s := by
      rw [hw, hsw]
      cases s
      · rw [if_neg (by decide), Nat.div_eq_of_lt (by omega)]; rfl
      · rw [if_pos rfl, show (9223372036854775808 + k) / 9223372036854775808 = 1 by omega]; rfl
    refine ⟨?_, fun h0 => absurd h0 hm⟩
    by_cases hi : k = 9218868437227405312
    · have := read_inf Ieee.double (Ieee.double.word s k) (by rw [hmod, double_inf]; exact hi) (by decide)
      rw [this] at h; cases h
    · have := read_fin Ieee.double (Ieee.double.word s k) (by rw [hmod, double_inf]; omega)
      rw [this, hsg] at h
      simp only [Ieee.Datum.number.injEq] at h
      exact h.1.symm
/-- from -1 to 0 -/
def Ngv (b : Nat) : Prop := Bl 0 b ∧ ∀ s m e, Ieee.double.read b = .number s m e → s = false → m = 0
/-- from 0 to 1 -/
def Psv (b : Nat) : Prop := Bl 0 b ∧ ∀ s m e, Ieee.double.read b = .number s m e → s = false
theorem mul_Ng {x y : Nat} (hx : Ngv x) (hy : Psv y) : Ngv (fop .mul .f64 x y) := by
  refine ⟨(mul_Bl hx.1 hy.1 (by omega) (by omega)).mono (by omega), ?_⟩
  obtain ⟨s, m, i, hm, _⟩ := hx.1
  obtain ⟨t, n, j, hn, _⟩ := hy.1
  have ht := hy.2 _ _ _ hn
  subst ht
  have e : floatBits .mul .f64 x y = some (Ieee.double.nearest (s ^^ false) (m * n) (i + j)) := by
    show Ieee.double.mul x y = _
    unfold Ieee.Format.mul
    rw [hm, hn]
    rfl
  rw [fop, e, Option.getD_some]
  intro s' m' e' h hs
  obtain ⟨h1, h2⟩ := near_sign _ _ _ h
  refine h2 ?_
  have : s = false := by rw [hs] at h1; cases s; rfl; exact absurd h1 (by decide)
  rw [hx.2 _ _ _ hm this, Nat.zero_mul]
theorem mul_Ps {x y : Nat} (hx : Psv x) (hy : Psv y) : Psv (fop .mul .f64 x y) := by
  refine ⟨(mul_Bl hx.1 hy.1 (by omega) (by omega)).mono (by omega), ?_⟩
  obtain ⟨s, m, i, hm, _⟩ := hx.1
  obtain ⟨t, n, j, hn, _⟩ := hy.1
  have ht := hy.2 _ _ _ hn
  have hs := hx.2 _ _ _ hm
  subst ht
  subst hs
  have e : floatBits .mul .f64 x y = some (Ieee.double.nearest (false ^^ false) (m * n) (i + j)) := by
    show Ieee.double.mul x y = _
    unfold Ieee.Format.mul
    rw [hm, hn]
    rfl
  rw [fop, e, Option.getD_some]
  intro s' m' e' h
  exact (near_sign _ _ _ h).1
theorem quo_Ng {K : Int} {x y : Nat} {n : Nat} {j : Int} (hx : Bl K x) (hz : ∀ s m e, Ieee.double.read x = .number s m e → s = false → m = 0) (hy : Ieee.double.read y = .number false n j) (hn : n ≠ 0) (hl : K ≤ (n.log2 : Int) + j) : Ngv (fop .quo .f64 x y) := by
  refine ⟨(quo_Bl' hx hy hn hl (by omega) (by omega)).mono (by omega), ?_⟩
  obtain ⟨s, m, i, hm, _⟩ := hx
  have e : floatBits .quo .f64 x y = some (Ieee.double.nearest (s ^^ false) (2 * (m <<< (54 + n.log2 - m.log2) / n) + (m <<< (54 + n.log2 - m.log2) % n != 0).toNat) (i - j - (54 + n.log2 - m.log2 : Nat) - 1)) := by
    show Ieee.double.div x y = _
    unfold Ieee.Format.div
    rw [hm, hy]
    simp only [Ieee.Datum.quotient]
    rw [if_neg hn]
    rfl
  rw [fop, e, Option.getD_some]
  intro s' m' e' h hs
  obtain ⟨h1, h2⟩ := near_sign _ _ _ h
  refine h2 ?_
  have : s = false := by rw [hs] at h1; cases s; rfl; exact absurd h1 (by decide)
  rw [hz _ _ _ hm this]
  simp
theorem one_rd : Ieee.double.read 4607182418800017408 = .number false 4503599627370496 (-52) := by decide +kernel
theorem add_Ps {x : Nat} (hx : Ngv x) : Psv (fop .add .f64 4607182418800017408 x) := by
  obtain ⟨t, n, j, hn, hnl⟩ := hx.1
  have hz := hx.2 _ _ _ hn
  have e : floatBits .add .f64 4607182418800017408 x = some (Ieee.double.nearest (if Ieee.signed false 4503599627370496 ((-52) - min (-52) j).toNat + Ieee.signed t n (j - min (-52) j).toNat = 0 then false && t else decide (Ieee.signed false 4503599627370496 ((-52) - min (-52) j).toNat + Ieee.signed t n (j - min (-52) j).toNat < 0)) (Ieee.signed false 4503599627370496 ((-52) - min (-52) j).toNat + Ieee.signed t n (j - min (-52) j).toNat).natAbs (min (-52) j)) := by
    show Ieee.double.add 4607182418800017408 x = _
    unfold Ieee.Format.add
    rw [one_rd, hn]
    rfl
  have p1 := part_le (K := 0) (m := 4503599627370496) (i := -52) (.inr ⟨by omega, by decide⟩) (Int.min_le_left (-52) j)
  have p2 := part_le hnl (Int.min_le_right (-52) j)
  have s1 : Ieee.signed false 4503599627370496 ((-52) - min (-52) j).toNat = ((4503599627370496 * 2 ^ ((-52) - min (-52) j).toNat : Nat) : Int) := by unfold Ieee.signed; rw [Nat.shiftLeft_eq]; rfl
  have q1 : 4503599627370496 * 2 ^ ((-52) - min (-52) j).toNat = 2 ^ (0 - min (-52) j).toNat := by
    rw [show 4503599627370496 = 2 ^ 52 by decide, ← Nat.pow_add]
    congr 1
    omega
  have s2 : Ieee.signed t n (j - min (-52) j).toNat = -((n * 2 ^ (j - min (-52) j).toNat : Nat) : Int) := by
    unfold Ieee.signed
    rw [Nat.shiftLeft_eq]
    cases t
    · rw [hz rfl]; simp
    · rfl
  have hb : min (-52) j ≤ 0 := by omega
  rw [fop, e, Option.getD_some]
  rw [s1, s2, q1]
  rw [q1] at p1
  generalize hP : 2 ^ (0 - min (-52) j).toNat = P at *
  generalize n * 2 ^ (j - min (-52) j).toNat = Q at *
  generalize min (-52) j = b at *
  have hS : 0 ≤ (P : Int) + -(Q : Int) := by omega
  have hsg : (if (P : Int) + -(Q : Int) = 0 then false && t else decide ((P : Int) + -(Q : Int) < 0)) = false := by
    split
    · rfl
    · exact decide_eq_false (by omega)
  rw [hsg]
  refine ⟨?_, fun s m e h => (near_sign _ _ _ h).1⟩
  by_cases hq : ((P : Int) + -(Q : Int)).natAbs = 0
  · exact near_Le0 _ hq
  · refine near_Le _ (.inr ⟨hb, ?_⟩) (by omega) (by omega)
    have : ((P : Int) + -(Q : Int)).natAbs ≤ P := by omega
    exact Nat.le_trans this (Nat.le_of_eq hP.symm)

theorem one_Ps : Psv 4607182418800017408 := ⟨Bl_of_B (show leB 0 4607182418800017408 = true by decide +kernel), fun s m e h => by rw [one_rd] at h; simp only [Ieee.Datum.number.injEq] at h; exact h.1.symm⟩
theorem twelve_low : ∀ k, k < 12 → lowB 0 (fi (12 - ((k : Nat) : Int))) = true := by decide +kernel
theorem pTo_Ps {t : Nat} (ht : Ngv t) : ∀ i : Nat, i ≤ 12 → Psv (pTo t i)
  | 0, _ => one_Ps
  | i + 1, h => by
    obtain ⟨n, j, hr, hn, hl⟩ := low_of (twelve_low i (by omega))
    have hm := mul_Ng ht (pTo_Ps ht i (by omega))
    exact add_Ps (quo_Ng hm.1 hm.2 hr hn hl)
theorem sqTo_Ps {p : Nat} (hp : Psv p) : ∀ i : Nat, Psv (sqTo p i)
  | 0 => hp
  | i + 1 => mul_Ps (sqTo_Ps hp i) (sqTo_Ps hp i)
/-- of a number that is not greater than 0 -/
theorem expF_small {x : Nat} (hn : nn .f64 x = false) (hx : x < 18446744073709551616) (hk : key FloatKind.f64.format x ≤ 0) : Bd 127 (expF x) := by
  unfold expF
  have h2 : gt200 x = false := by
    unfold gt200
    rw [ord_key, hn, show nn .f64 4641240890982006784 = false by decide +kernel, key64_pos 4641240890982006784 (by omega), if_neg (by decide), cmp_gt]
    exact decide_eq_false (by omega)
  rw [h2, if_neg (by decide)]
  cases h3 : lt200 x
  · rw [if_neg (by decide)]
    unfold lt200 at h3
    rw [ord_key, hn, show nn .f64 13864612927836782592 = false by decide +kernel, show (13864612927836782592 : Nat) = 9223372036854775808 + 4641240890982006784 from rfl, key64_neg 4641240890982006784 (by omega), if_neg (by decide), cmp_lt] at h3
    have h3 := of_decide_eq_false h3
    have hb : x % 9223372036854775808 ≤ 4641240890982006784 ∧ (x < 9223372036854775808 → x = 0) := by
      by_cases hs : x < 9223372036854775808
      · rw [key64_pos x hs] at hk
        exact ⟨by omega, fun _ => by omega⟩
      · obtain ⟨k, rfl⟩ : ∃ k, x = 9223372036854775808 + k := ⟨x - 9223372036854775808, by omega⟩
        rw [key64_neg k (by omega)] at h3
        exact ⟨by omega, fun h => by omega⟩
    have hB : Bl 8 x := (Bl_bits 1030 (by omega) (by omega)).mono (by omega)
    have hz : ∀ s m e, Ieee.double.read x = .number s m e → s = false → m = 0 := by
      intro s m e hr hs
      have hsw : Ieee.double.signWeight = 9223372036854775808 := double_sw
      have := read_fin Ieee.double x (by rw [hsw, double_inf]; omega)
      rw [this] at hr
      simp only [Ieee.Datum.number.injEq] at hr
      obtain ⟨h1, h2, _⟩ := hr
      rw [hs, hsw] at h1
      have hlt : x < 9223372036854775808 := by
        by_cases g : x < 9223372036854775808
        · exact g
        · rw [show x / 9223372036854775808 = 1 by omega] at h1; exact absurd h1 (by decide)
      rw [hb.2 hlt] at h2
      rw [← h2]; decide +kernel
    have ht : Ngv (fop .quo .f64 x 4643211215818981376) := by
      obtain ⟨n, j, hr, hn', hl⟩ := low_of (show lowB 8 4643211215818981376 = true by decide +kernel)
      exact quo_Ng hB hz hr hn' hl
    exact match (Bl_Bd (sqTo_Ps (pTo_Ps ht 12 (Nat.le_refl _)) 8).1) with
    | ⟨s, m, e, hr, hl⟩ => ⟨s, m, e, hr, by rcases hl with h | h; exact .inl h; exact .inr (by omega)⟩
  · rw [if_pos rfl]
    exact ⟨false, 0, -1074, by decide +kernel, .inl rfl⟩

def ExV (c : Nat) (w : World) (e : Ending) (w' : World) : Prop := ∃ r n, cn .f32 r = c ∧ e = .returned (.float .f32 r) ∧ w' = w.drewN n
/-- both sides' exponential functions are the same where the number is not greater than 0 -/
theorem exps_agree (a : Nat) (ha : a = 0 ∨ (2147483648 ≤ a ∧ a ≤ 4286578688)) : ∃ c, ∀ w, Calls Try.prog 59 #[.float .f32 a] w (ExV c w) ∧ Calls Try.prog 64 #[.float .f32 a] w (ExV c w) := by
  have hn : nn .f32 a = false := by rw [nn32]; exact decide_eq_false (by omega)
  have HU := Lib.hid (show ∀ r, UR a r → nn .f64 r = false ∧ Bd 127 (expF r) ∧ expF r = expF (cvu a) from fun r h => by
    have hr := nn_up h
    rw [hn] at hr
    have ho : FloatKind.f64.format.order r 0 = some .eq ∨ FloatKind.f64.format.order r 0 = some .lt := by
      by_cases g : a = 0 ∨ a = 2147483648
      · exact .inl (up_zero g h).2
      · exact .inr (up_neg h (by omega) (by omega) hn).2
    have hk : key FloatKind.f64.format r ≤ 0 := by
      rw [ord_key, hr, show nn .f64 0 = false by decide +kernel, key64_pos 0 (by omega), if_neg (by decide)] at ho
      simp only [Option.some.injEq, compare, compareOfLessAndEq] at ho
      by_cases q : key FloatKind.f64.format r < 0
      · omega
      · rw [if_neg (by omega)] at ho
        by_cases q2 : key FloatKind.f64.format r = 0
        · omega
        · rw [if_neg (by omega)] at ho; rcases ho with ho | ho <;> cases ho
    refine ⟨hr, expF_small hr (wf64 h.2) hk, ?_⟩
    have e := h.1
    rw [cn_of_num hr, cn_of_num hn] at e
    rw [e])
  have HD := Lib.hid (show ∀ r t u, UR a r → cn .f64 t = expF r → DR t u → cn .f32 u = cvd (expF (cvu a)) from fun r t u hu ht hd => by
    obtain ⟨_, h2, h3⟩ := HU.out r hu
    rw [hd.1 (by rw [ht]; exact ovf_small h2), ht, h3])
  refine ⟨cvd (expF (cvu a)), fun w => ⟨?_, ?_⟩⟩
  · clear hn
    go_enter Try.func59, Try.ntmps59
    go_wp2_with (first | (refine wpList_up rfl Try.underlying23 Try.underlying33 _ rfl _ rfl ?_; intro _ _ _) | (refine wpList_down rfl Try.underlying33 Try.underlying23 _ rfl _ rfl ?_; intro _ _ _) | (go_at_call 104; refine (specExp_any _ _ (HU.out _ (by assumption)).1).mono ?_; rintro e w' ⟨t, n, ht, rfl, rfl⟩; have HT := Lib.hid ht; clear ht) | go_in)
    go_ret
    rename_i r j hu u j2 hd
    exact ⟨_, _, HD.out _ _ _ hu HT.out hd, rfl, rfl⟩
  · clear hn
    go_enter Try.func64, Try.ntmps64
    go_wp2_with (first | (refine wpList_up rfl Try.underlying23 Try.underlying33 _ rfl _ rfl ?_; intro _ _ _) | (refine wpList_down rfl Try.underlying33 Try.underlying23 _ rfl _ rfl ?_; intro _ _ _) | (go_at_call 107; refine (implExp_any _ _ (HU.out _ (by assumption)).1).mono ?_; rintro e w' ⟨t, n, ht, rfl, rfl⟩; have HT := Lib.hid ht; clear ht))
    go_ret
    rename_i r j hu u j2 hd
    exact ⟨_, _, HD.out _ _ _ hu HT.out hd, rfl, rfl⟩
end Go.Proofs.Ytabdinmodopadab
