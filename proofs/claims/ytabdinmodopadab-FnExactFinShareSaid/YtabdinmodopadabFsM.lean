/- Signs of square roots and of products. -/
import Derived.Test.YtabdinmodopadabSg32
import Derived.Test.YtabdinmodopadabNr
import Derived.Test.YtabdinmodopadabRoot
namespace Go.Proofs.Ytabdinmodopadab
open Go.RowKit
set_option linter.unusedVariables false

/-- not negative, or -0, or not a number -/
def SgD : Ieee.Datum → Prop
  | .number s m _ => s = true → m = 0
  | .infinity s => s = false
  | .nan .. => True
theorem nearD (s : Bool) (m : Nat) (e : Int) : ∃ k, k ≤ 9218868437227405312 ∧ Ieee.double.nearest s m e = Ieee.double.word s k ∧ (m = 0 → k = 0) := by
  unfold Ieee.Format.nearest
  by_cases h : m = 0
  · rw [if_pos h]
    exact ⟨0, by omega, rfl, fun _ => rfl⟩
  · rw [if_neg h, show Ieee.double.infRung = 9218868437227405312 by decide]
    exact ⟨_, Nat.min_le_right _ _, rfl, fun h' => absurd h' h⟩
theorem wordD_sg {s : Bool} {k : Nat} (hk : k ≤ 9218868437227405312) (hs : s = true → k = 0) : SgD (Ieee.double.read (Ieee.double.word s k)) := by
  have hw : Ieee.double.word s k = if s then 9223372036854775808 + k else k := by unfold Ieee.Format.word; rw [show Ieee.double.signWeight = 9223372036854775808 from double_sw]
  rw [hw]
  cases s
  · rw [if_neg (by decide)]
    by_cases g : k < 9218868437227405312
    · have hr := read_fin Ieee.double k (by rw [show Ieee.double.signWeight = 9223372036854775808 from double_sw, show Ieee.double.infRung = 9218868437227405312 by decide]; omega)
      rw [hr]
      intro h
      rw [show Ieee.double.signWeight = 9223372036854775808 from double_sw, Nat.div_eq_of_lt (by omega)] at h
      exact absurd h (by decide)
    · have hr := read_inf Ieee.double k (by rw [show Ieee.double.signWeight = 9223372036854775808 from double_sw, show Ieee.double.infRung = 9218868437227405312 by decide]; omega) (by decide)
      rw [hr]
      show (k / Ieee.double.signWeight % 2 == 1) = false
      rw [show Ieee.double.signWeight = 9223372036854775808 from double_sw, Nat.div_eq_of_lt (by omega)]
      rfl
  · have := hs rfl
    subst this
    rw [if_pos rfl]
    have hr := read_fin Ieee.double (9223372036854775808 + 0) (by rw [show Ieee.double.signWeight = 9223372036854775808 from double_sw, show Ieee.double.infRung = 9218868437227405312 by decide]; omega)
    rw [hr, show Ieee.double.signWeight = 9223372036854775808 from double_sw]
    intro _
    decide
theorem qn_sg : SgD (Ieee.double.read (qn .f64)) := by
  have hn := nn_qn .f64
  unfold nn at hn
  cases h : Ieee.double.read (qn .f64) with
  | nan s p => trivial
  | number s m e => rw [show FloatKind.f64.decode (qn .f64) = .number s m e from h] at hn; cases hn
  | infinity s => rw [show FloatKind.f64.decode (qn .f64) = .infinity s from h] at hn; cases hn
theorem fsq_sg (x : Nat) : SgD (Ieee.double.read (fsq x)) := by
  unfold fsq Ieee.Format.sqrt
  cases hx : Ieee.double.read x with
  | nan s p => exact qn_sg
  | infinity s =>
    cases s
    · exact wordD_sg (s := false) (k := 9218868437227405312) (by omega) (fun h => absurd h (by decide))
    · exact qn_sg
  | number s m i =>
    simp only [Ieee.Datum.root]
    by_cases h0 : m = 0
    · rw [if_pos h0]
      obtain ⟨k, k1, k2, k3⟩ := nearD s m i
      show SgD (Ieee.double.read (Ieee.double.nearest s m i))
      rw [k2]
      exact wordD_sg k1 (fun _ => k3 h0)
    · rw [if_neg h0]
      cases s
      · rw [if_neg (by decide)]
        show SgD (Ieee.double.read (Ieee.double.nearest false _ _))
        generalize (2 * _ + _ : Nat) = M
        obtain ⟨k, k1, k2, k3⟩ := nearD false M (_ : Int)
        rw [k2]
        exact wordD_sg k1 (fun h => absurd h (by decide))
      · exact qn_sg
theorem cvd_sg {y : Nat} (h : SgD (Ieee.double.read y)) : Nng (cvd y) ∨ nn .f32 (cvd y) = true := by
  unfold cvd floatToFloatBits
  rw [if_neg (by decide)]
  show Nng (Option.getD (match Ieee.double.read y with | .nan _ _ => none | .infinity s => some (FloatKind.f32.encode (.infinity s)) | .number s m e => if (FloatKind.f32.decode (FloatKind.f32.encode (.number s m e))).isInfinity then none else some (FloatKind.f32.encode (.number s m e))) (qn .f32)) ∨ nn .f32 (Option.getD (match Ieee.double.read y with | .nan _ _ => none | .infinity s => some (FloatKind.f32.encode (.infinity s)) | .number s m e => if (FloatKind.f32.decode (FloatKind.f32.encode (.number s m e))).isInfinity then none else some (FloatKind.f32.encode (.number s m e))) (qn .f32)) = true
  cases hy : Ieee.double.read y with
  | nan s p => exact .inr (nn_qn .f32)
  | infinity s =>
    rw [hy] at h
    have : s = false := h
    subst this
    refine .inl (.inl ?_)
    show FloatKind.f32.encode (.infinity false) ≤ 2139095040
    decide +kernel
  | number s m e =>
    rw [hy] at h
    simp only []
    cases hi : (FloatKind.f32.decode (FloatKind.f32.encode (.number s m e))).isInfinity
    · rw [if_neg (by decide)]
      refine .inl ?_
      show Nng (Ieee.single.nearest s m e)
      obtain ⟨k, k1, k2, k3⟩ := near_word s m e
      rw [k2]
      exact word_Nng k1 (fun hs => k3 (h hs))
    · rw [if_pos rfl]
      exact .inr (nn_qn .f32)
theorem Nng_parts {x : Nat} (h : Nng x) : x = 2139095040 ∨ (fin .f32 x = true ∧ geN x 0 = true) := by
  by_cases e : x = 2139095040
  · exact .inl e
  · refine .inr ⟨?_, ?_⟩
    · cases hf : fin .f32 x
      · obtain ⟨s, hs⟩ := inf_of hf (Nng_num h)
        have hr := read_fin Ieee.single x (by rw [s_sw, s_inf]; rcases h with h | h <;> omega)
        have : FloatKind.f32.format.read x = Ieee.single.read x := rfl
        rw [this, hr] at hs; cases hs
      · rfl
    · unfold geN
      rw [ordk (Nng_num h) (nn_small (x := 0) (by omega)), kpos (x := 0) (by omega)]
      rcases h with h | h
      · rw [kpos (x := x) (by omega)]
        by_cases z : x = 0
        · rw [icmp_eq (by omega)]; rfl
        · rw [icmp_gt (by omega)]; rfl
      · rw [kneg (x := x) (by omega) (by omega), icmp_eq (by omega)]; rfl
theorem read_pinf : Ieee.single.read 2139095040 = .infinity false := by decide +kernel
theorem mul_sg {l x : Nat} (hl : pos l = true) (hx : Nng x) : Nng (fop .mul .f32 l x) := by
  obtain ⟨a, b, n, j, hr, hn⟩ := pos_nz hl
  rcases Nng_parts hx with rfl | ⟨h1, h2⟩
  · have e : floatBits .mul .f32 l 2139095040 = some (Ieee.single.write (.infinity false)) := by
      show ((Ieee.single.read l).product (Ieee.single.read 2139095040)).map Ieee.single.write = _
      rw [hr, read_pinf]
      show (if n = 0 then none else some (Ieee.Datum.infinity _)).map Ieee.single.write = _
      rw [if_neg hn]; rfl
    unfold fop
    rw [e]
    refine .inl ?_
    show Ieee.single.write (.infinity false) ≤ 2139095040
    decide +kernel
  · exact mul_Nng a b h1 h2
theorem nn_negF (x : Nat) : nn .f32 (Op.negFloat .f32 x) = nn .f32 x := by
  rw [nn32, nn32]
  have : Op.negFloat .f32 x % 2147483648 = x % 2147483648 := by
    show (x ^^^ 2 ^ 31) % 2 ^ 31 = x % 2 ^ 31
    rw [Nat.xor_mod_two_pow, Nat.mod_self, Nat.xor_zero]
  rw [this]
theorem two_pos : pos 1073741824 = true := by decide +kernel
/-- twice a number, and minus twice -/
theorem mul_two {m : Nat} (h : Nng m) : Nng (fop .mul .f32 1073741824 m) ∧ fop .mul .f32 3221225472 m = Op.negFloat .f32 (fop .mul .f32 1073741824 m) := by
  refine ⟨mul_sg two_pos h, ?_⟩
  rcases Nng_parts h with rfl | ⟨h1, h2⟩
  · decide +kernel
  · obtain ⟨t, n, j, hr, ht⟩ := ge_parts h1 h2
    obtain ⟨c, i, h3, h4⟩ : ∃ c i, Ieee.single.read 1073741824 = .number false c i ∧ Ieee.single.read 3221225472 = .number true c i := ⟨_, _, by rfl, by rfl⟩
    have e3 : floatBits .mul .f32 1073741824 m = some (Ieee.single.nearest (false ^^ t) (c * n) (i + j)) := by
      show ((Ieee.single.read 1073741824).product (Ieee.single.read m)).map Ieee.single.write = _
      rw [h3, hr]; rfl
    have e4 : floatBits .mul .f32 3221225472 m = some (Ieee.single.nearest (true ^^ t) (c * n) (i + j)) := by
      show ((Ieee.single.read 3221225472).product (Ieee.single.read m)).map Ieee.single.write = _
      rw [h4, hr]; rfl
    have f3 : fop .mul .f32 1073741824 m = Ieee.single.nearest (false ^^ t) (c * n) (i + j) := by unfold fop; rw [e3]; rfl
    have f4 : fop .mul .f32 3221225472 m = Ieee.single.nearest (true ^^ t) (c * n) (i + j) := by unfold fop; rw [e4]; rfl
    rw [f3, f4]
    obtain ⟨k, k1, _, k3⟩ := near_any (c * n) (i + j)
    rw [k3, k3, s_word, s_word]
    cases t
    · rw [if_pos (by rfl), if_neg (by decide), neg_bits (by omega), if_pos (by omega)]; omega
    · rw [if_neg (by decide), if_pos (by rfl), neg_bits (by omega), if_neg (by omega)]; omega

end Go.Proofs.Ytabdinmodopadab
