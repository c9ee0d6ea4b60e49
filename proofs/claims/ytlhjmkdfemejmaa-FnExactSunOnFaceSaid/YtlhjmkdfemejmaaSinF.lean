/- The sine of some turns, in numbers. -/
import Derived.Test.YtlhjmkdfemejmaaSinM
import Derived.Test.YtlhjmkdfemejmaaOrd
namespace Go.Proofs.Ytlhjmkdfemejmaa
open Go Go.RowKit
set_option linter.unusedVariables false

theorem fb_some {op : BinOp} {x y : Nat} (h : nn .f64 (fop op .f64 x y) = false) : floatBits op .f64 x y = some (fop op .f64 x y) := by
  cases hb : floatBits op .f64 x y with
  | none => unfold fop at h; rw [hb] at h; rw [show (none : Option Nat).getD (qn .f64) = qn .f64 from rfl, nn_qn] at h; cases h
  | some v => unfold fop; rw [hb]; rfl
theorem FR64 {op : BinOp} {a b r : Nat} (h : FR op .f64 a b r) (hn : nn .f64 (fop op .f64 a b) = false) : r = fop op .f64 a b := by
  have e := h.1
  rw [fop_cnl, fop_cnr] at e
  rw [← e, nn_cn] at hn
  rw [cn_of_num hn] at e
  exact e
theorem sub_Bl {K : Int} {x y : Nat} (hx : Bl K x) (hy : Bl K y) (h0 : -900 ≤ K) (h1 : K ≤ 800) : Bl (K + 1) (fop .sub .f64 x y) := by
  obtain ⟨s, m, i, hm, hml⟩ := hx
  obtain ⟨t, n, j, hn, hnl⟩ := hy
  have e : floatBits .sub .f64 x y = some (Ieee.double.nearest (if Ieee.signed s m (i - min i j).toNat + Ieee.signed (!t) n (j - min i j).toNat = 0 then s && !t else decide (Ieee.signed s m (i - min i j).toNat + Ieee.signed (!t) n (j - min i j).toNat < 0)) (Ieee.signed s m (i - min i j).toNat + Ieee.signed (!t) n (j - min i j).toNat).natAbs (min i j)) := by
    show Ieee.double.sub x y = _
    unfold Ieee.Format.sub
    rw [hm, hn]
    rfl
  rw [fop, e, Option.getD_some]
  refine near_Le _ ?_ (by omega) (by omega)
  have p1 := part_le hml (Int.min_le_left i j)
  have p2 := part_le hnl (Int.min_le_right i j)
  rw [← signed_abs s] at p1
  rw [← signed_abs (!t)] at p2
  have p3 := sum_le _ _ _ p1 p2
  by_cases hK : min i j ≤ K
  · refine .inr ⟨by omega, Nat.le_trans p3 ?_⟩
    rw [← Nat.pow_succ]
    exact Nat.pow_le_pow_right (by decide) (by omega)
  · have z1 : m = 0 := by rcases hml with h | h; exact h; omega
    have z2 : n = 0 := by rcases hnl with h | h; exact h; omega
    refine .inl ?_
    rw [z1, z2]
    unfold Ieee.signed
    simp
def tlt (f : Nat) : Bool := FloatKind.f64.format.order f 0 == some .lt
def tge (f : Nat) : Bool := FloatKind.f64.format.order f 4602678819172646912 == some .gt || FloatKind.f64.format.order f 4602678819172646912 == some .eq
def tgt (f : Nat) : Bool := FloatKind.f64.format.order f 4598175219545276416 == some .gt
def sf1 (f : Nat) : Nat := if tlt f then fop .add .f64 f 4607182418800017408 else f
def sf2 (f : Nat) : Nat := if tge (sf1 f) then fop .sub .f64 (sf1 f) 4602678819172646912 else sf1 f
def sf3 (f : Nat) : Nat := if tgt (sf2 f) then fop .sub .f64 4602678819172646912 (sf2 f) else sf2 f
def sfz (f : Nat) : Nat := fop .mul .f64 (sf3 f) 4618760256179416344
def sfu (f : Nat) : Nat := fop .mul .f64 (sfz f) (sfz f)
def cof (j : Nat) : Int := 2 * (8 - (j : Int)) * (2 * (8 - (j : Int)) + 1)
def snp (u : Nat) : Nat → Nat
  | 0 => 4607182418800017408
  | j + 1 => fop .sub .f64 4607182418800017408 (fop .quo .f64 (fop .mul .f64 u (snp u j)) (floatOfInt .f64 (cof j)))
def sfv (f : Nat) : Nat := fop .mul .f64 (sfz f) (snp (sfu f) 8)
/-- the sine of what is left of some turns -/
def sfR (f : Nat) : Nat := if tge (sf1 f) then Op.negFloat .f64 (sfv f) else sfv f

structure Sn (f F1 F2 F3 Z U V : Nat) (P : Nat → Nat) (b1 b2 b3 : Bool) : Prop where
  o1 : tlt f = b1
  e1 : if b1 then floatBits .add .f64 f 4607182418800017408 = some F1 else F1 = f
  o2 : tge F1 = b2
  e2 : if b2 then floatBits .sub .f64 F1 4602678819172646912 = some F2 else F2 = F1
  o3 : tgt F2 = b3
  e3 : if b3 then floatBits .sub .f64 4602678819172646912 F2 = some F3 else F3 = F2
  e4 : floatBits .mul .f64 F3 4618760256179416344 = some Z
  e5 : floatBits .mul .f64 Z Z = some U
  p0 : P 0 = 4607182418800017408
  pn : ∀ j, j < 8 → floatBits .mul .f64 U (P j) = some (fop .mul .f64 U (P j)) ∧ nn .f64 (fop .quo .f64 (fop .mul .f64 U (P j)) (floatOfInt .f64 (cof j))) = false ∧ P (j + 1) = fop .sub .f64 4607182418800017408 (fop .quo .f64 (fop .mul .f64 U (P j)) (floatOfInt .f64 (cof j))) ∧ nn .f64 (P (j + 1)) = false
  e6 : floatBits .mul .f64 Z (P 8) = some V

theorem cof_read (j : Nat) (h : j < 8) : ∃ n e, Ieee.double.read (floatOfInt .f64 (cof j)) = .number false n e ∧ n ≠ 0 ∧ (0 : Int) ≤ (n.log2 : Int) + e := by
  have key : ∀ j, j < 8 → (match Ieee.double.read (floatOfInt .f64 (cof j)) with | .number false n e => n != 0 && decide ((0 : Int) ≤ (n.log2 : Int) + e) | _ => false) = true := by decide +kernel
  have := key j h
  split at this
  · rename_i n e hr
    simp at this
    exact ⟨n, e, hr, this.1, this.2⟩
  · cases this
theorem snp_zero (u : Nat) : snp u 0 = 4607182418800017408 := by rw [snp]
theorem snp_succ (u j : Nat) : snp u (j + 1) = fop .sub .f64 4607182418800017408 (fop .quo .f64 (fop .mul .f64 u (snp u j)) (floatOfInt .f64 (cof j))) := by rw [snp]
theorem snp_Bl {u : Nat} (hu : Bl 12 u) : ∀ j : Nat, j ≤ 8 → Bl (13 * (j : Int)) (snp u j) ∧ (j < 8 → Bl (12 + 13 * (j : Int)) (fop .mul .f64 u (snp u j)) ∧ Bl (12 + 13 * (j : Int)) (fop .quo .f64 (fop .mul .f64 u (snp u j)) (floatOfInt .f64 (cof j))))
  | 0, _ => by
    have b0 : Bl 0 (snp u 0) := by rw [snp_zero]; exact Bl_of_B (by decide +kernel)
    have b1 := mul_Bl hu b0 (by omega) (by omega)
    refine ⟨b0, fun h => ⟨b1, ?_⟩⟩
    obtain ⟨n, e, hr, hn, hl⟩ := cof_read 0 h
    exact (quo_Bl' b1 hr hn hl (by omega) (by omega)).mono (by omega)
  | j + 1, h => by
    obtain ⟨_, h2⟩ := snp_Bl hu j (by omega)
    obtain ⟨_, b3⟩ := h2 (by omega)
    have b4 : Bl (13 * ((j + 1 : Nat) : Int)) (snp u (j + 1)) := by
      rw [snp_succ]
      exact (sub_Bl ((Bl_of_B (show leB 0 4607182418800017408 = true by decide +kernel)).mono (by omega)) b3 (by omega) (by omega)).mono (by omega)
    have b1 := mul_Bl hu b4 (by omega) (by omega)
    refine ⟨b4, fun h => ⟨b1.mono (by omega), ?_⟩⟩
    obtain ⟨n, e, hr, hn, hl⟩ := cof_read (j + 1) h
    exact (quo_Bl' b1 hr hn hl (by omega) (by omega)).mono (by omega)
theorem sf1_Bl {f : Nat} (h : Bl 0 f) : Bl 1 (sf1 f) := by
  unfold sf1
  split
  · exact add_Bl h (Bl_of_B (by decide +kernel)) (by omega) (by omega)
  · exact h.mono (by omega)
theorem sf2_Bl {f : Nat} (h : Bl 0 f) : Bl 2 (sf2 f) := by
  unfold sf2
  split
  · exact sub_Bl (sf1_Bl h) ((Bl_of_B (show leB 0 4602678819172646912 = true by decide +kernel)).mono (by omega)) (by omega) (by omega)
  · exact (sf1_Bl h).mono (by omega)
theorem sf3_Bl {f : Nat} (h : Bl 0 f) : Bl 3 (sf3 f) := by
  unfold sf3
  split
  · exact sub_Bl ((Bl_of_B (show leB 0 4602678819172646912 = true by decide +kernel)).mono (by omega)) (sf2_Bl h) (by omega) (by omega)
  · exact (sf2_Bl h).mono (by omega)
theorem sfz_Bl {f : Nat} (h : Bl 0 f) : Bl 6 (sfz f) := mul_Bl (sf3_Bl h) (Bl_of_B (show leB 3 4618760256179416344 = true by decide +kernel)) (by omega) (by omega)
theorem sfu_Bl {f : Nat} (h : Bl 0 f) : Bl 12 (sfu f) := mul_Bl (sfz_Bl h) (sfz_Bl h) (by omega) (by omega)
theorem sfv_Bl {f : Nat} (h : Bl 0 f) : Bl 110 (sfv f) := (mul_Bl (sfz_Bl h) (snp_Bl (sfu_Bl h) 8 (by omega)).1 (by omega) (by omega)).mono (by omega)
theorem sfR_Bl {f : Nat} (h : Bl 0 f) : Bl 110 (sfR f) := by
  unfold sfR
  split
  · exact neg_Bl (sfv_Bl h)
  · exact sfv_Bl h
theorem sn_of {f : Nat} (h : Bl 0 f) : Sn f (sf1 f) (sf2 f) (sf3 f) (sfz f) (sfu f) (sfv f) (snp (sfu f)) (tlt f) (tge (sf1 f)) (tgt (sf2 f)) where
  o1 := rfl
  e1 := by
    have hb := sf1_Bl h
    unfold sf1 at hb ⊢
    split
    · rename_i hc; rw [if_pos hc] at hb; exact fb_some (Bl_num hb)
    · rfl
  o2 := rfl
  e2 := by
    have hb := sf2_Bl h
    unfold sf2 at hb ⊢
    split
    · rename_i hc; rw [if_pos hc] at hb; exact fb_some (Bl_num hb)
    · rfl
  o3 := rfl
  e3 := by
    have hb := sf3_Bl h
    unfold sf3 at hb ⊢
    split
    · rename_i hc; rw [if_pos hc] at hb; exact fb_some (Bl_num hb)
    · rfl
  e4 := fb_some (Bl_num (sfz_Bl h))
  e5 := fb_some (Bl_num (sfu_Bl h))
  p0 := snp_zero _
  pn := fun j hj => by
    have h1 := (snp_Bl (sfu_Bl h) j (by omega)).2 hj
    exact ⟨fb_some (Bl_num h1.1), Bl_num h1.2, snp_succ _ j, Bl_num (snp_Bl (sfu_Bl h) (j + 1) (by omega)).1⟩
  e6 := fb_some (Bl_num (sfv_Bl h))
theorem sn_step {U : Nat} {P : Nat → Nat} {j r1 r2 r3 : Nat} {b : Int} (hp : floatBits .mul .f64 U (P j) = some (fop .mul .f64 U (P j)) ∧ nn .f64 (fop .quo .f64 (fop .mul .f64 U (P j)) (floatOfInt .f64 (cof j))) = false ∧ P (j + 1) = fop .sub .f64 4607182418800017408 (fop .quo .f64 (fop .mul .f64 U (P j)) (floatOfInt .f64 (cof j))) ∧ nn .f64 (P (j + 1)) = false)
    (f1 : FR .mul .f64 U (P j) r1) (f2 : FR .quo .f64 r1 (floatOfInt .f64 b) r2) (f3 : FR .sub .f64 4607182418800017408 r2 r3) (hb : b = cof j) : r3 = P (j + 1) := by
  subst hb
  obtain ⟨h1, h2, h3, h4⟩ := hp
  have e1 : r1 = fop .mul .f64 U (P j) := FR64 f1 (by
    have := floatBits_num h1
    exact this)
  subst e1
  have e2 := FR64 f2 h2
  subst e2
  rw [h3] at h4 ⊢
  exact FR64 f3 h4
/-- the whole angle and more -/
def bigB (y : Nat) : Bool := decide (4841369599423283200 ≤ y % 9223372036854775808)
theorem key64 (x : Nat) : key FloatKind.f64.format x = if x / 9223372036854775808 % 2 == 1 then -((x % 9223372036854775808 : Nat) : Int) else ((x % 9223372036854775808 : Nat) : Int) := by
  show key Ieee.double x = _
  unfold key; rw [d_sw]
theorem ord_c {y c : Nat} (hy : nn .f64 y = false) (hc : nn .f64 c = false) : FloatKind.f64.format.order y c = some (compare (key FloatKind.f64.format y) (key FloatKind.f64.format c)) := by rw [ord_key, hy, hc]; rfl
theorem kBig : key FloatKind.f64.format 4841369599423283200 = (4841369599423283200 : Int) := by decide +kernel
theorem kNbig : key FloatKind.f64.format 14064741636278059008 = -(4841369599423283200 : Int) := by decide +kernel
theorem big_abs {y : Nat} (hy : nn .f64 y = false) : (FloatKind.f64.format.order (y % 9223372036854775808) 4841369599423283200 == some .gt || FloatKind.f64.format.order (y % 9223372036854775808) 4841369599423283200 == some .eq) = bigB y := by
  have hn : nn .f64 (y % 9223372036854775808) = false := by rw [nn64] at hy ⊢; rw [Nat.mod_mod]; exact hy
  have e1 : y % 9223372036854775808 / 9223372036854775808 = 0 := Nat.div_eq_of_lt (Nat.mod_lt _ (by decide))
  have k1 : key FloatKind.f64.format (y % 9223372036854775808) = ((y % 9223372036854775808 : Nat) : Int) := by rw [key64, e1, Nat.mod_mod]; rfl
  rw [ord_c hn (by decide +kernel), cmp_gt, cmp_eq, k1, kBig]
  unfold bigB
  generalize y % 9223372036854775808 = r
  rw [Bool.eq_iff_iff]; simp; omega
theorem big_two {y : Nat} (hy : nn .f64 y = false) : ((FloatKind.f64.format.order y 4841369599423283200 == some .gt || FloatKind.f64.format.order y 4841369599423283200 == some .eq) || (FloatKind.f64.format.order y 14064741636278059008 == some .lt || FloatKind.f64.format.order y 14064741636278059008 == some .eq)) = bigB y := by
  rw [ord_c hy (by decide +kernel), ord_c hy (by decide +kernel), cmp_gt, cmp_eq, cmp_lt, cmp_eq, kBig, kNbig, key64]
  unfold bigB
  have hr : y % 9223372036854775808 < 9223372036854775808 := Nat.mod_lt _ (by decide)
  generalize y % 9223372036854775808 = r at *
  cases (y / 9223372036854775808 % 2 == 1)
  · simp only [Bool.false_eq_true, if_false]
    rw [Bool.eq_iff_iff]; simp; omega
  · simp only [if_true]
    rw [Bool.eq_iff_iff]; simp; omega
theorem small_of {y : Nat} (h : (Lit.float .f64 y).wf = true) (hb : bigB y = false) : Small y := ⟨wf64 h, by unfold bigB at hb; have := of_decide_eq_false hb; omega⟩
/-- the sine of some turns, in 32 bits -/
def sinF (x : Nat) : Nat := if fin .f32 x then (if bigB (cvu x) then 0 else cvd (sfR (frF (cvu x)))) else qn .f32

end Go.Proofs.Ytlhjmkdfemejmaa
