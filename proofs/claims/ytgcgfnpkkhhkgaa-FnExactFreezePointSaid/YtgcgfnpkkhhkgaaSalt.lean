/- Salty water: both sides, and the laws' walks. -/
import Derived.Test.YtgcgfnpkkhhkgaaGiv2
import Derived.Test.YtgcgfnpkkhhkgaaPur
import Derived.Test.YtgcgfnpkkhhkgaaNeg
namespace Go.Proofs.Ytgcgfnpkkhhkgaa
open Go Go.RowKit
set_option linter.unusedVariables false

def sgt (a c : Nat) : Bool := FloatKind.f32.format.order a c == some .gt
def seq (a c : Nat) : Bool := FloatKind.f32.format.order a c == some .eq
def slt (a c : Nat) : Bool := FloatKind.f32.format.order a c == some .lt
def saltOk (a : Nat) : Bool := (sgt a 0 || seq a 0) && (slt a 1133903872 || seq a 1133903872)
theorem ord32_cases (x c : Nat) : FloatKind.f32.format.order x c = none ∨ FloatKind.f32.format.order x c = some .lt ∨ FloatKind.f32.format.order x c = some .eq ∨ FloatKind.f32.format.order x c = some .gt := by
  cases FloatKind.f32.format.order x c with
  | none => exact .inl rfl
  | some o => cases o <;> simp
/-- the product, and its opposite -/
def sPrd (a : Nat) : Nat := fop .mul .f32 1029517083 a
def sPt (a : Nat) : Nat := fneg .f32 (sPrd a)

/-- the key of a 32-bit word, by its sign -/
theorem key32 (x : Nat) : key FloatKind.f32.format x = if x / 2147483648 % 2 == 1 then -((x % 2147483648 : Nat) : Int) else ((x % 2147483648 : Nat) : Int) := by
  unfold key; rw [single_sw]
theorem fin_read32 {a : Nat} (h : a % 2147483648 < 2139095040) : Ieee.single.read a = .number (a / 2147483648 % 2 == 1) (mg Ieee.single (a % 2147483648)) (-149 + (ex Ieee.single (a % 2147483648) : Nat)) := by
  have := read_fin Ieee.single a
  rw [show Ieee.single.signWeight = 2147483648 from single_sw, single_inf'] at this
  exact this h

theorem saltOk_iff {a : Nat} (h : saltOk a = true) : a % 2147483648 < 2139095040 ∧ ((a / 2147483648 % 2 == 1) = true → a % 2147483648 = 0) := by
  unfold saltOk sgt seq slt at h
  rw [ord_key, ord_key] at h
  cases hn : nn .f32 a
  · rw [hn, show nn .f32 0 = false by decide +kernel, show nn .f32 1133903872 = false by decide +kernel] at h
    simp only [Bool.or_self, Bool.false_eq_true, if_false, cmp_gt, cmp_eq, cmp_lt, Bool.and_eq_true, Bool.or_eq_true, decide_eq_true_eq] at h
    rw [show key FloatKind.f32.format 0 = 0 by decide +kernel, show key FloatKind.f32.format 1133903872 = 1133903872 by decide +kernel, key32] at h
    cases hs : (a / 2147483648 % 2 == 1)
    · rw [hs] at h
      simp only [Bool.false_eq_true, if_false] at h
      exact ⟨by omega, fun h => by cases h⟩
    · rw [hs] at h
      simp only [if_true] at h
      exact ⟨by omega, fun _ => by omega⟩
  · rw [hn] at h
    simp at h

theorem word32 (s : Bool) (r : Nat) : Ieee.single.word s r = if s then 2147483648 + r else r := by
  unfold Ieee.Format.word
  rw [show Ieee.single.signWeight = 2147483648 from single_sw]
theorem neg_div32 (x : Nat) : Op.negFloat .f32 x / 2147483648 = (x / 2147483648) ^^^ 1 := by
  show (x ^^^ 2 ^ 31) / 2 ^ 31 = _
  rw [Nat.xor_div_two_pow]
theorem nearest32 (s : Bool) (m : Nat) (e : Int) : ∃ r, Ieee.single.nearest s m e = Ieee.single.word s r ∧ r ≤ 2139095040 ∧ (m = 0 → r = 0) := by
  unfold Ieee.Format.nearest
  by_cases h : m = 0
  · rw [if_pos h]
    exact ⟨0, rfl, by omega, fun _ => rfl⟩
  · rw [if_neg h, single_inf']
    exact ⟨_, rfl, Nat.min_le_right _ _, fun h' => absurd h' h⟩

/-- the freezing point is a number that is not greater than 0 -/
theorem sPt_key {a : Nat} (h : saltOk a = true) : nn .f32 (sPt a) = false ∧ key FloatKind.f32.format (sPt a) ≤ 0 := by
  obtain ⟨h1, h2⟩ := saltOk_iff h
  have hr := fin_read32 h1
  have e : floatBits .mul .f32 1029517083 a = some (Ieee.single.nearest (a / 2147483648 % 2 == 1) (14495515 * mg Ieee.single (a % 2147483648)) (-28 + (-149 + (ex Ieee.single (a % 2147483648) : Nat)))) := by
    show Ieee.single.mul 1029517083 a = _
    unfold Ieee.Format.mul
    rw [hr, show Ieee.single.read 1029517083 = .number false 14495515 (-28) by decide +kernel]
    simp [Ieee.Datum.product]
    rfl
  obtain ⟨r, hw, hle, hz⟩ := nearest32 (a / 2147483648 % 2 == 1) (14495515 * mg Ieee.single (a % 2147483648)) (-28 + (-149 + (ex Ieee.single (a % 2147483648) : Nat)))
  have ep : sPrd a = Ieee.single.word (a / 2147483648 % 2 == 1) r := by unfold sPrd fop; rw [e, hw]; rfl
  have hz' : (a / 2147483648 % 2 == 1) = true → r = 0 := fun hs => hz (by rw [h2 hs]; decide)
  have hnn : nn .f32 (Op.negFloat .f32 (sPrd a)) = false := by
    rw [nn32, neg_mod32, ep, word32]
    refine decide_eq_false ?_
    split <;> omega
  have hs : sPt a = Op.negFloat .f32 (sPrd a) := cn_of_num hnn
  rw [hs]
  refine ⟨hnn, ?_⟩
  rw [key32, neg_mod32, neg_div32, ep, word32]
  cases hb : (a / 2147483648 % 2 == 1)
  · simp only [Bool.false_eq_true, if_false]
    rw [Nat.div_eq_of_lt (show r < 2147483648 by omega)]
    show -_ ≤ _
    omega
  · rw [hz' hb]
    decide

/-- a quotient of two numbers, the divisor the greater one, is finite -/
theorem quo_small {p w : Nat} (hw : w % 2147483648 < 2139095040) (h : p % 2147483648 < w % 2147483648) : fin .f32 (fop .quo .f32 p w) = true := by
  have hp := fin_read32 (show p % 2147483648 < 2139095040 by omega)
  have hq := fin_read32 hw
  have hv := vl_lt Ieee.single h
  unfold vl at hv
  generalize (p / 2147483648 % 2 == 1) = s at *
  generalize (w / 2147483648 % 2 == 1) = t at *
  generalize mg Ieee.single (p % 2147483648) = m at *
  generalize mg Ieee.single (w % 2147483648) = n at *
  generalize ex Ieee.single (p % 2147483648) = i at *
  generalize ex Ieee.single (w % 2147483648) = j at *
  have hn : n ≠ 0 := by rintro rfl; rw [Nat.zero_mul] at hv; omega
  have hfin : ∀ (sg : Bool) (M : Nat) (E : Int), Lt 127 M E → fin .f32 (Ieee.single.nearest sg M E) = true := by
    intro sg M E hL
    have h1 := single_small sg M E hL
    unfold fin
    rw [show nn .f32 (Ieee.single.nearest sg M E) = false from read_write Ieee.single (.number sg M E) rfl]
    rw [show FloatKind.f32.decode (Ieee.single.nearest sg M E) = Ieee.single.read (Ieee.single.write (.number sg M E)) from rfl, h1]
    rfl
  have e : floatBits .quo .f32 p w = some (Ieee.single.nearest (s ^^ t) (2 * (m <<< (25 + n.log2 - m.log2) / n) + (m <<< (25 + n.log2 - m.log2) % n != 0).toNat) ((-149 + (i : Nat)) - (-149 + (j : Nat)) - (25 + n.log2 - m.log2 : Nat) - 1)) := by
    show Ieee.single.div p w = _
    unfold Ieee.Format.div
    rw [hp, hq]
    simp only [Ieee.Datum.quotient]
    rw [if_neg hn]
    rfl
  rw [fop, e, Option.getD_some]
  apply hfin
  by_cases hz : 2 * (m <<< (25 + n.log2 - m.log2) / n) + (m <<< (25 + n.log2 - m.log2) % n != 0).toNat = 0
  · exact .inl hz
  · refine .inr ?_
    have hm0 : m ≠ 0 := by
      intro h0
      apply hz
      rw [h0]
      simp
    have hl : m.log2 + i ≤ n.log2 + j := by
      have a1 := log2_mul_pow m i hm0
      have a2 := log2_mul_pow n j hn
      have a3 : (m * 2 ^ i).log2 < (n * 2 ^ j).log2 + 1 := (Nat.log2_lt (Nat.mul_ne_zero hm0 (Nat.ne_of_gt (Nat.two_pow_pos _)))).2 (Nat.lt_trans hv Nat.lt_log2_self)
      omega
    generalize hmo : 25 + n.log2 - m.log2 = more at *
    rw [Nat.shiftLeft_eq] at *
    have d1 : m * 2 ^ more < 2 ^ (m.log2 + 1 + more) := by
      rw [Nat.pow_add]
      exact Nat.mul_lt_mul_of_pos_right Nat.lt_log2_self (Nat.two_pow_pos _)
    have d3 : 2 ^ n.log2 ≤ n := Nat.log2_self_le hn
    have d2 : m * 2 ^ more / n ≤ m * 2 ^ more / 2 ^ n.log2 := Nat.div_le_div_left d3 (Nat.two_pow_pos _)
    have d5 : m * 2 ^ more / 2 ^ n.log2 < 2 ^ (m.log2 + 1 + more - n.log2 + 1) := by
      rw [Nat.div_lt_iff_lt_mul (Nat.two_pow_pos _), ← Nat.pow_add]
      exact Nat.lt_of_lt_of_le d1 (Nat.pow_le_pow_right (by decide) (by omega))
    have hb : (m * 2 ^ more % n != 0).toNat ≤ 1 := by cases (m * 2 ^ more % n != 0) <;> decide
    have d4 : (2 * (m * 2 ^ more / n) + (m * 2 ^ more % n != 0).toNat).log2 < m.log2 + 1 + more - n.log2 + 1 + 1 := by
      refine (Nat.log2_lt hz).2 ?_
      rw [Nat.pow_succ]
      omega
    omega

theorem fin_num32' {a : Nat} (h : fin .f32 a = true) : nn .f32 a = false := by
  cases hn : nn .f32 a
  · rfl
  · rw [fin_nan hn] at h; cases h
/-- what is less than the freezing point has a greater absolute value -/
theorem below_pt {a w : Nat} (h : saltOk a = true) (hw : fin .f32 w = true) (hl : sgt w (sPt a) = false ∧ seq w (sPt a) = false) : fin .f32 (fop .quo .f32 (sPt a) w) = true := by
  obtain ⟨hn, hk⟩ := sPt_key h
  have hwn := fin_num32' hw
  have hwm : w % 2147483648 < 2139095040 := by
    have := hwn
    rw [nn32] at this
    have := of_decide_eq_false this
    by_cases hi : w % 2147483648 = 2139095040
    · exfalso
      unfold fin FloatKind.decode at hw
      have hr := read_inf FloatKind.f32.format w (by rw [single_sw, single_inf]; exact hi) (by decide)
      rw [hr] at hw
      simp [Ieee.Datum.isInfinity] at hw
    · omega
  refine quo_small hwm ?_
  obtain ⟨h1, h2⟩ := hl
  unfold sgt at h1
  unfold seq at h2
  rw [ord_key, hwn, hn] at h1 h2
  simp only [Bool.or_self, Bool.false_eq_true, if_false, cmp_gt, cmp_eq, decide_eq_false_iff_not] at h1 h2
  generalize sPt a = p at *
  rw [key32] at h1 h2 hk
  rw [key32] at h1 h2
  split at h1 <;> split at h1 <;> simp_all <;> omega

theorem sPt_val {a r : Nat} (f : FR .mul .f32 1029517083 a r) : cn .f32 (Op.negFloat .f32 r) = sPt a := by
  refine (cn_neg f.1).trans ?_
  unfold sPt sPrd
  simp only [fop_cnl, fop_cnr]
theorem salt_order {a w p : Nat} (hp : cn .f32 p = sPt a) (z : Ordering) : (FloatKind.f32.format.order w p == some z) = (FloatKind.f32.format.order w (sPt a) == some z) := by
  rw [← order_cn .f32 w p, ← order_cn .f32 w (sPt a), hp]
  have : cn .f32 (sPt a) = sPt a := by rw [← hp, cn_cn]
  rw [this]
def brS (a w : Nat) : Nat := if sgt w (sPt a) || seq w (sPt a) then 1065353216 else fop .quo .f32 (sPt a) w
theorem br_ge {a w : Nat} (h : (sgt w (sPt a) || seq w (sPt a)) = true) : cn .f32 1065353216 = brS a w := by
  unfold brS; rw [h, if_pos rfl]; decide +kernel
theorem br_lt {a w p q : Nat} (h : (sgt w (sPt a) || seq w (sPt a)) = false) (hp : cn .f32 p = sPt a) (f : FR .quo .f32 p w q) : cn .f32 q = brS a w := by
  unfold brS; rw [h, f.1, hp, if_neg (by decide)]; simp only [fop_cnr]
theorem br_fin {a w : Nat} (h : saltOk a = true) (hw : fin .f32 w = true) : fin .f32 (brS a w) = true := by
  unfold brS
  cases hb : (sgt w (sPt a) || seq w (sPt a))
  · rw [if_neg (by decide)]
    exact below_pt h hw (by simpa using hb)
  · rw [if_pos rfl]; decide +kernel

theorem specSalt_any (a : Nat) (w : World) : Calls Try.prog 50 #[.float .f32 a] w fun e w1 => e = .returned (.bool (saltOk a)) ∧ w = w1 := by
  have E := Lib.hid (show saltOk a = ((sgt a 0 || seq a 0) && (slt a 1133903872 || seq a 1133903872)) from rfl)
  rcases ord32_cases a 0 with o1 | o1 | o1 | o1
  all_goals
    rcases ord32_cases a 1133903872 with o2 | o2 | o2 | o2
    all_goals
      go_enter Try.func50, Try.ntmps50
      go_wp2
      go_ret
      refine ⟨ret_bb ?_, rfl⟩
      rw [E.out]
      unfold sgt seq slt
      rw [o1, o2]
      rfl

theorem specFreeze_any (a : Nat) (w : World) : Calls Try.prog 27 #[.float .f32 a] w (GivB (bif saltOk a then sPt a else 0) (saltOk a) w) := by
  cases B : saltOk a
  all_goals
    have HB := Lib.hid B
    clear B
    go_enter Try.func27, Try.ntmps27
    go_wp2_with fail
    refine (specSalt_any _ _).mono ?_
    rw [HB.out]
    rintro e w1 ⟨rfl, rfl⟩
    go_wp2_with (refine wpList_farith rfl _ _ _ _ _ rfl rfl _ _ _ rfl rfl ?_; intro p j f)
    go_ret2
    first
    | exact GivB.no (by repeat (first | exact Below.refl _ _ | refine Below.setCell ?_ (by first | exact Nat.le_refl _ | (simp; done) | (simp; omega) | omega) _ | refine below_drewN ?_ _ | refine Below.alloc ?_ (by first | exact Nat.le_refl _ | (simp; done) | (simp; omega) | omega) _))
    | exact GivB.yes (sPt_val f) (by repeat (first | exact Below.refl _ _ | refine Below.setCell ?_ (by first | exact Nat.le_refl _ | (simp; done) | (simp; omega) | omega) _ | refine below_drewN ?_ _ | refine Below.alloc ?_ (by first | exact Nat.le_refl _ | (simp; done) | (simp; omega) | omega) _))

theorem implFreeze_any (a : Nat) (w : World) : Calls Try.prog 28 #[.float .f32 a] w (GivB (bif saltOk a then sPt a else 0) (saltOk a) w) := by
  have E := Lib.hid (show saltOk a = ((sgt a 0 || seq a 0) && (slt a 1133903872 || seq a 1133903872)) from rfl)
  rcases ord32_cases a 0 with o1 | o1 | o1 | o1
  all_goals
    rcases ord32_cases a 1133903872 with o2 | o2 | o2 | o2
    all_goals
      have V : (saltOk a = true) ∨ (saltOk a = false) := by cases saltOk a <;> simp
      have W := E.out
      unfold sgt seq slt at W
      rw [o1, o2] at W
      rcases V with V | V
      all_goals
        rw [V] at W
        first
        | (exfalso; revert W; decide)
        | skip
      all_goals
        rw [V]
        clear V W
        go_enter Try.func28, Try.ntmps28
        go_wp2_with (refine wpList_farith rfl _ _ _ _ _ rfl rfl _ _ _ rfl rfl ?_; intro p j f)
        go_ret2
        first
        | exact GivB.no (by repeat (first | exact Below.refl _ _ | refine Below.setCell ?_ (by first | exact Nat.le_refl _ | (simp; done) | (simp; omega) | omega) _ | refine below_drewN ?_ _ | refine Below.alloc ?_ (by first | exact Nat.le_refl _ | (simp; done) | (simp; omega) | omega) _))
        | exact GivB.yes (sPt_val f) (by repeat (first | exact Below.refl _ _ | refine Below.setCell ?_ (by first | exact Nat.le_refl _ | (simp; done) | (simp; omega) | omega) _ | refine below_drewN ?_ _ | refine Below.alloc ?_ (by first | exact Nat.le_refl _ | (simp; done) | (simp; omega) | omega) _))

def brB (x a : Nat) : Bool := saltOk a && fin .f32 x
set_option maxHeartbeats 800000 in
theorem specBrine_any (x a : Nat) (w : World) : Calls Try.prog 30 #[.float .f32 x, .float .f32 a] w (GivB (bif brB x a then brS a x else 0) (brB x a) w) := by
  cases B : saltOk a
  · have HB := Lib.hid B
    have e : brB x a = false := by unfold brB; rw [B]; rfl
    rw [e]
    clear B e
    go_enter Try.func30, Try.ntmps30
    go_wp2_with fail
    refine (specSalt_any _ _).mono ?_
    rw [HB.out]
    rintro e w1 ⟨rfl, rfl⟩
    go_wp2
    go_ret2
    exact GivB.no (by repeat (first | exact Bw.out | exact Below.refl _ _ | refine Below.setCell ?_ (by first | exact Nat.le_refl _ | (simp; done) | (simp; omega) | omega) _ | refine below_drewN ?_ _ | refine Below.alloc ?_ (by first | exact Nat.le_refl _ | (simp; done) | (simp; omega) | omega) _))
  · cases C : fin .f32 x
    · have HB := Lib.hid B
      have HF := Lib.hid C
      have e : brB x a = false := by unfold brB; rw [B, C]; rfl
      rw [e]
      clear B C e
      go_enter Try.func30, Try.ntmps30
      go_wp2_with fail
      refine (specSalt_any _ _).mono ?_
      rw [HB.out]
      rintro e w1 ⟨rfl, rfl⟩
      go_wp2_with fail
      refine (specFinite_any _ _).mono ?_
      rw [HF.out]
      rintro e w2 ⟨rfl, n, rfl⟩
      go_wp2
      go_ret2
      exact GivB.no (by repeat (first | exact Bw.out | exact Below.refl _ _ | refine Below.setCell ?_ (by first | exact Nat.le_refl _ | (simp; done) | (simp; omega) | omega) _ | refine below_drewN ?_ _ | refine Below.alloc ?_ (by first | exact Nat.le_refl _ | (simp; done) | (simp; omega) | omega) _))
    · have HB := Lib.hid B
      have HF := Lib.hid C
      have FI := Lib.hid (br_fin B C)
      have e : brB x a = true := by unfold brB; rw [B, C]; rfl
      rw [e]
      clear B C e
      show Calls _ _ _ _ (GivB (brS a x) true w)
      go_enter Try.func30, Try.ntmps30
      go_wp2_with fail
      refine (specSalt_any _ _).mono ?_
      rw [HB.out]
      rintro e w1 ⟨rfl, rfl⟩
      go_wp2_with fail
      refine (specFinite_any _ _).mono ?_
      rw [HF.out]
      rintro e w2 ⟨rfl, n, rfl⟩
      go_wp2_with (first | (refine wpList_farith rfl .mul _ _ _ _ rfl rfl _ _ _ rfl rfl ?_; intro p0 j f; have HP := Lib.hid (sPt_val f)) | (refine wpList_farith rfl .quo _ _ _ _ rfl rfl _ _ _ rfl rfl ?_; intro q j2 f2) | (go_at_call 52; refine (specNum_any _ _).mono ?_; rintro e w3 ⟨rfl, n4, rfl⟩))
      · rename_i h
        have H := Lib.hid h
        clear h
        have HC := Lib.hid (show (sgt x (sPt a) || seq x (sPt a)) = true by unfold sgt seq; rw [← salt_order HP.out, ← salt_order HP.out]; simpa using H.out)
        go_ret2
        exact GivB.yes (br_ge HC.out) (by repeat (first | exact Below.refl _ _ | refine Below.setCell ?_ (by first | exact Nat.le_refl _ | (simp; done) | (simp; omega) | omega) _ | refine below_drewN ?_ _ | refine Below.alloc ?_ (by first | exact Nat.le_refl _ | (simp; done) | (simp; omega) | omega) _))
      · rename_i h
        have H := Lib.hid h
        clear h
        have HC := Lib.hid (show (sgt x (sPt a) || seq x (sPt a)) = false by unfold sgt seq; rw [← salt_order HP.out, ← salt_order HP.out]; simpa using H.out)
        go_ret2
        exact GivB.ok (br_lt HC.out HP.out f2) FI.out (by repeat (first | exact Below.refl _ _ | refine Below.setCell ?_ (by first | exact Nat.le_refl _ | (simp; done) | (simp; omega) | omega) _ | refine below_drewN ?_ _ | refine Below.alloc ?_ (by first | exact Nat.le_refl _ | (simp; done) | (simp; omega) | omega) _))

set_option maxHeartbeats 800000 in
theorem implBrine_any (x a : Nat) (w : World) : Calls Try.prog 31 #[.float .f32 x, .float .f32 a] w (GivB (bif brB x a then brS a x else 0) (brB x a) w) := by
  cases B : saltOk a
  · have HB := Lib.hid B
    have e : brB x a = false := by unfold brB; rw [B]; rfl
    rw [e]
    clear B e
    go_enter Try.func31, Try.ntmps31
    go_wp2_with fail
    refine (implFreeze_any _ _).mono ?_
    rw [HB.out]
    rintro e w1 ⟨p, hp, rfl, hb⟩
    have HP := Lib.hid hp
    have Bw := Lib.hid hb
    clear hp hb
    go_wp2
    go_ret2
    exact GivB.no (by repeat (first | exact Bw.out | exact Below.refl _ _ | refine Below.setCell ?_ (by first | exact Nat.le_refl _ | (simp; done) | (simp; omega) | omega) _ | refine below_drewN ?_ _ | refine Below.alloc ?_ (by first | exact Nat.le_refl _ | (simp; done) | (simp; omega) | omega) _))
  · cases C : fin .f32 x
    · have HB := Lib.hid B
      have HF := Lib.hid C
      have e : brB x a = false := by unfold brB; rw [B, C]; rfl
      rw [e]
      clear B C e
      go_enter Try.func31, Try.ntmps31
      go_wp2_with fail
      refine (implFreeze_any _ _).mono ?_
      rw [HB.out]
      rintro e w1 ⟨p, hp, rfl, hb⟩
      have HP := Lib.hid hp
      have Bw := Lib.hid hb
      clear hp hb
      go_wp2_with fail
      refine (implFinite_any _ _).mono ?_
      rw [HF.out]
      rintro e w2 ⟨rfl, n, rfl⟩
      go_wp2
      go_ret2
      exact GivB.no (by first | exact below_drewN Bw.out _ | exact (by repeat (first | exact Bw.out | exact Below.refl _ _ | refine Below.setCell ?_ (by first | exact Nat.le_refl _ | (simp; done) | (simp; omega) | omega) _ | refine below_drewN ?_ _ | refine Below.alloc ?_ (by first | exact Nat.le_refl _ | (simp; done) | (simp; omega) | omega) _)))
    · have HB := Lib.hid B
      have HF := Lib.hid C
      have FI := Lib.hid (br_fin B C)
      have e : brB x a = true := by unfold brB; rw [B, C]; rfl
      rw [e]
      clear B C e
      show Calls _ _ _ _ (GivB (brS a x) true w)
      go_enter Try.func31, Try.ntmps31
      go_wp2_with fail
      refine (implFreeze_any _ _).mono ?_
      rw [HB.out]
      rintro e w1 ⟨p, hp, rfl, hb⟩
      have HP := Lib.hid hp
      have Bw := Lib.hid hb
      clear hp hb
      go_wp2_with fail
      refine (implFinite_any _ _).mono ?_
      rw [HF.out]
      rintro e w2 ⟨rfl, n, rfl⟩
      go_wp2_with (first | (refine wpList_farith rfl .quo _ _ _ _ rfl rfl _ _ _ rfl rfl ?_; intro q j2 f2))
      · rename_i h
        have H := Lib.hid h
        clear h
        have HC := Lib.hid (show (sgt x (sPt a) || seq x (sPt a)) = true by unfold sgt seq; rw [← salt_order HP.out, ← salt_order HP.out]; simpa using H.out)
        go_ret2
        exact GivB.yes (br_ge HC.out) (by first | exact below_drewN Bw.out _ | (simpa using below_drewN Bw.out _) | exact (by repeat (first | exact Bw.out | exact Below.refl _ _ | refine Below.setCell ?_ (by first | exact Nat.le_refl _ | (simp; done) | (simp; omega) | omega) _ | refine below_drewN ?_ _ | refine Below.alloc ?_ (by first | exact Nat.le_refl _ | (simp; done) | (simp; omega) | omega) _)))
      · rename_i h
        have H := Lib.hid h
        clear h
        have HC := Lib.hid (show (sgt x (sPt a) || seq x (sPt a)) = false by unfold sgt seq; rw [← salt_order HP.out, ← salt_order HP.out]; simpa using H.out)
        go_ret2
        exact GivB.yes (br_lt HC.out HP.out f2) (by first | exact below_drewN Bw.out _ | (simpa using below_drewN Bw.out _) | exact (by repeat (first | exact Bw.out | exact Below.refl _ _ | refine Below.setCell ?_ (by first | exact Nat.le_refl _ | (simp; done) | (simp; omega) | omega) _ | refine below_drewN ?_ _ | refine Below.alloc ?_ (by first | exact Nat.le_refl _ | (simp; done) | (simp; omega) | omega) _)))

set_option maxRecDepth 20000 in
theorem fnExactFreezePoint_walk (a : Nat) (w : World) (_ : (Lit.float .f32 a).wf = true) : Calls Try.prog 8 #[.float .f32 a] w (Tru w) := by
  go_enter Try.func8, Try.ntmps8
  go_wp2_with fail
  refine (specFreeze_any a _).mono ?_
  rintro _ w1 ⟨r1, hr1, rfl, hb⟩
  have Bw := Lib.hid hb
  have R1 := Lib.hid hr1
  clear hb hr1
  go_wp2_with fail
  refine (implFreeze_any a _).mono ?_
  rintro _ w2 ⟨r2, hr2, rfl, hb⟩
  have Bw := Lib.hid (below_step Bw.out hb)
  have R2 := Lib.hid hr2
  clear hb hr2
  go_wp2_with (first | (refine wpList_up rfl Try.underlying38 Try.underlying42 _ rfl _ rfl ?_; intro _ _ _) | (go_at_call 29; refine (same_end (a := r2) (b := r1) _ (by assumption) (by assumption) (R2.out.trans R1.out.symm)).mono ?_; rintro e w' ⟨rfl, n, rfl⟩))
  go_ret
  exact Tru.below (below_drewN Bw.out _)

set_option maxRecDepth 20000 in
theorem fnExactBrineShare_walk (x a : Nat) (w : World) (_ : (Lit.float .f32 x).wf = true) (_ : (Lit.float .f32 a).wf = true) : Calls Try.prog 9 #[.float .f32 x, .float .f32 a] w (Tru w) := by
  go_enter Try.func9, Try.ntmps9
  go_wp2_with fail
  refine (specBrine_any x a _).mono ?_
  rintro _ w1 ⟨r1, hr1, rfl, hb⟩
  have Bw := Lib.hid hb
  have R1 := Lib.hid hr1
  clear hb hr1
  go_wp2_with fail
  refine (implBrine_any x a _).mono ?_
  rintro _ w2 ⟨r2, hr2, rfl, hb⟩
  have Bw := Lib.hid (below_step Bw.out hb)
  have R2 := Lib.hid hr2
  clear hb hr2
  go_wp2_with (first | (refine wpList_up rfl Try.underlying38 Try.underlying42 _ rfl _ rfl ?_; intro _ _ _) | (go_at_call 29; refine (same_end (a := r2) (b := r1) _ (by assumption) (by assumption) (R2.out.trans R1.out.symm)).mono ?_; rintro e w' ⟨rfl, n, rfl⟩))
  go_ret
  exact Tru.below (below_drewN Bw.out _)

end Go.Proofs.Ytgcgfnpkkhhkgaa
