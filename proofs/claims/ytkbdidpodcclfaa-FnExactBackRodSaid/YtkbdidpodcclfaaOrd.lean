/- The order of two floats as the order of two integers that are read off their bits. -/
import Derived.Test.YtkbdidpodcclfaaFc
namespace Go.Proofs.Ytkbdidpodcclfaa

def mg (f : Ieee.Format) (r : Nat) : Nat := if r < f.binade then r else f.binade + r % f.binade
def ex (f : Ieee.Format) (r : Nat) : Nat := r / f.binade - 1
def vl (f : Ieee.Format) (r : Nat) : Nat := mg f r * 2 ^ ex f r

theorem binade_pos (f : Ieee.Format) : 0 < f.binade := Nat.two_pow_pos _

theorem vl_lt (f : Ieee.Format) {a b : Nat} (h : a < b) : vl f a < vl f b := by
  have hB := binade_pos f
  unfold vl mg ex
  generalize f.binade = B at *
  have ma := Nat.mod_lt a hB
  have mb := Nat.mod_lt b hB
  have da := Nat.div_add_mod a B
  have db := Nat.div_add_mod b B
  by_cases h1 : a < B
  · have ea : a / B = 0 := Nat.div_eq_of_lt h1
    rw [if_pos h1, ea]
    by_cases h2 : b < B
    · rw [if_pos h2, Nat.div_eq_of_lt h2]; simpa using h
    · rw [if_neg h2]
      have p : 0 < 2 ^ (b / B - 1) := Nat.two_pow_pos _
      have : B + b % B ≤ (B + b % B) * 2 ^ (b / B - 1) := Nat.le_mul_of_pos_right _ p
      simp only [Nat.zero_sub, Nat.pow_zero, Nat.mul_one]
      omega
  · have h2 : ¬ b < B := by omega
    rw [if_neg h1, if_neg h2]
    have qa : 1 ≤ a / B := (Nat.one_le_div_iff hB).2 (by omega)
    have qle : a / B ≤ b / B := Nat.div_le_div_right (by omega)
    by_cases hq : a / B = b / B
    · rw [hq] at da ⊢
      have : a % B < b % B := by omega
      exact Nat.mul_lt_mul_of_pos_right (by omega) (Nat.two_pow_pos _)
    · have l1 : (B + a % B) * 2 ^ (a / B - 1) < (B + B) * 2 ^ (a / B - 1) := Nat.mul_lt_mul_of_pos_right (by omega) (Nat.two_pow_pos _)
      have l2 : (B + B) * 2 ^ (a / B - 1) = B * 2 ^ (a / B) := by
        rw [← Nat.two_mul, Nat.mul_comm 2 B, Nat.mul_assoc, ← Nat.pow_succ']
        congr 2; omega
      have l3 : B * 2 ^ (a / B) ≤ B * 2 ^ (b / B - 1) := Nat.mul_le_mul_left _ (Nat.pow_le_pow_right (by decide) (by omega))
      have l4 : B * 2 ^ (b / B - 1) ≤ (B + b % B) * 2 ^ (b / B - 1) := Nat.mul_le_mul_right _ (by omega)
      omega

theorem vl_lt_iff (f : Ieee.Format) (a b : Nat) : vl f a < vl f b ↔ a < b := by
  refine ⟨fun h => ?_, vl_lt f⟩
  rcases Nat.lt_trichotomy a b with h1 | h1 | h1
  · exact h1
  · subst h1; omega
  · have := vl_lt f h1; omega

theorem scaled (f : Ieee.Format) (r n : Nat) (h : n ≤ ex f r) : (mg f r <<< (ex f r - n)) * 2 ^ n = vl f r := by
  unfold vl
  rw [Nat.shiftLeft_eq, Nat.mul_assoc, ← Nat.pow_add]
  congr 2; omega

/-- the integer that a word's place in the order is -/
def key (f : Ieee.Format) (x : Nat) : Int := if x / f.signWeight % 2 == 1 then -((x % f.signWeight : Nat) : Int) else ((x % f.signWeight : Nat) : Int)
def notNan (f : Ieee.Format) (x : Nat) : Prop := x % f.signWeight ≤ f.infRung

theorem read_fin (f : Ieee.Format) (x : Nat) (h : x % f.signWeight < f.infRung) :
    f.read x = .number (x / f.signWeight % 2 == 1) (mg f (x % f.signWeight)) (f.leastPlace + (ex f (x % f.signWeight) : Nat)) := by
  unfold Ieee.Format.read mg ex
  dsimp only
  by_cases h1 : x % f.signWeight < f.binade
  · rw [if_pos h1, if_pos h1, Nat.div_eq_of_lt h1]; simp
  · rw [if_neg h1, if_neg h1, if_pos h]

theorem read_inf (f : Ieee.Format) (x : Nat) (h : x % f.signWeight = f.infRung) (hb : f.binade ≤ f.infRung) : f.read x = .infinity (x / f.signWeight % 2 == 1) := by
  unfold Ieee.Format.read
  dsimp only
  rw [if_neg (by omega), if_neg (by omega), if_pos h]

theorem compare_congr {x y x' y' : Int} (h1 : x < y ↔ x' < y') (h2 : x = y ↔ x' = y') : compare x y = compare x' y' := by
  simp only [compare, compareOfLessAndEq]
  by_cases a : x < y
  · rw [if_pos a, if_pos (h1.1 a)]
  · rw [if_neg a, if_neg (fun b => a (h1.2 b))]
    by_cases c : x = y
    · rw [if_pos c, if_pos (h2.1 c)]
    · rw [if_neg c, if_neg (fun b => c (h2.2 b))]

theorem order_key (f : Ieee.Format) (hb : f.binade ≤ f.infRung) (hi : 0 < f.infRung) (x y : Nat) (hx : notNan f x) (hy : notNan f y) : f.order x y = some (compare (key f x) (key f y)) := by
  unfold notNan at hx hy
  unfold Ieee.Format.order key
  generalize hs : (x / f.signWeight % 2 == 1) = s
  generalize ht : (y / f.signWeight % 2 == 1) = t
  by_cases h1 : x % f.signWeight < f.infRung
  · rw [read_fin f x h1, hs]
    generalize x % f.signWeight = a at *
    by_cases h2 : y % f.signWeight < f.infRung
    · rw [read_fin f y h2, ht]
      generalize y % f.signWeight = b at *
      simp only [Ieee.Datum.order]
      congr 1
      have e1 : (f.leastPlace + (ex f a : Int) - min (f.leastPlace + (ex f a : Int)) (f.leastPlace + (ex f b : Int))).toNat = ex f a - min (ex f a) (ex f b) := by omega
      have e2 : (f.leastPlace + (ex f b : Int) - min (f.leastPlace + (ex f a : Int)) (f.leastPlace + (ex f b : Int))).toNat = ex f b - min (ex f a) (ex f b) := by omega
      rw [e1, e2]
      have sa := scaled f a (min (ex f a) (ex f b)) (Nat.min_le_left _ _)
      have sb := scaled f b (min (ex f a) (ex f b)) (Nat.min_le_right _ _)
      have hp : 0 < 2 ^ min (ex f a) (ex f b) := Nat.two_pow_pos _
      have v1 := vl_lt_iff f a b
      have v2 := vl_lt_iff f b a
      have z1 := vl_lt_iff f 0 a
      have z2 := vl_lt_iff f 0 b
      have v0 : vl f 0 = 0 := by unfold vl mg; rw [if_pos (binade_pos f)]; simp
      rw [v0] at z1 z2
      rw [← sa, ← sb] at v1 v2
      rw [← sa] at z1
      rw [← sb] at z2
      simp only [Ieee.signed]
      generalize mg f a <<< (ex f a - min (ex f a) (ex f b)) = A at *
      generalize mg f b <<< (ex f b - min (ex f a) (ex f b)) = C at *
      generalize 2 ^ min (ex f a) (ex f b) = D at *
      have w1 : A < C ↔ a < b := by rw [← v1]; exact ⟨fun h => Nat.mul_lt_mul_of_pos_right h hp, fun h => Nat.lt_of_mul_lt_mul_right h⟩
      have w2 : C < A ↔ b < a := by rw [← v2]; exact ⟨fun h => Nat.mul_lt_mul_of_pos_right h hp, fun h => Nat.lt_of_mul_lt_mul_right h⟩
      have w3 : 0 < A ↔ 0 < a := by rw [← z1]; exact ⟨fun h => Nat.mul_pos h hp, fun h => Nat.pos_of_mul_pos_right h⟩
      have w4 : 0 < C ↔ 0 < b := by rw [← z2]; exact ⟨fun h => Nat.mul_pos h hp, fun h => Nat.pos_of_mul_pos_right h⟩
      clear v1 v2 z1 z2 sa sb e1 e2 hs ht h1 h2 hx hy
      apply compare_congr <;> cases s <;> cases t <;> simp only [if_true, if_false, Bool.false_eq_true] <;> omega
    · have h3 : y % f.signWeight = f.infRung := by omega
      rw [read_inf f y h3 hb, ht, h3]
      simp only [Ieee.Datum.order]
      congr 1
      cases t
      · simp only [Bool.false_eq_true, if_false, compare, compareOfLessAndEq]
        rw [if_pos (by split <;> omega)]
      · simp only [if_true, compare, compareOfLessAndEq]
        rw [if_neg (by split <;> omega), if_neg (by split <;> omega)]
  · have h3 : x % f.signWeight = f.infRung := by omega
    rw [read_inf f x h3 hb, hs, h3]
    by_cases h2 : y % f.signWeight < f.infRung
    · rw [read_fin f y h2, ht]
      simp only [Ieee.Datum.order]
      congr 1
      cases s
      · simp only [Bool.false_eq_true, if_false, compare, compareOfLessAndEq]
        rw [if_neg (by split <;> omega), if_neg (by split <;> omega)]
      · simp only [if_true, compare, compareOfLessAndEq]
        rw [if_pos (by split <;> omega)]
    · have h4 : y % f.signWeight = f.infRung := by omega
      rw [read_inf f y h4 hb, ht, h4]
      simp only [Ieee.Datum.order]
      congr 1
      have hI : (0 : Int) < (f.infRung : Int) := by omega
      generalize (f.infRung : Int) = I at *
      cases s <;> cases t
      · show Ordering.eq = compare I I
        simp only [compare, compareOfLessAndEq]
        rw [if_neg (by omega), if_pos trivial]
      · show Ordering.gt = compare I (-I)
        simp only [compare, compareOfLessAndEq]
        rw [if_neg (by omega), if_neg (by omega)]
      · show Ordering.lt = compare (-I) I
        simp only [compare, compareOfLessAndEq]
        rw [if_pos (by omega)]
      · show Ordering.eq = compare (-I) (-I)
        simp only [compare, compareOfLessAndEq]
        rw [if_neg (by omega), if_pos trivial]

theorem nn_iff (k : FloatKind) (x : Nat) : nn k x = false ↔ notNan k.format x := by
  unfold nn notNan FloatKind.decode
  have hb : k.format.binade ≤ k.format.infRung := by cases k <;> decide
  constructor
  · intro h
    by_cases h1 : x % k.format.signWeight ≤ k.format.infRung
    · exact h1
    · exfalso
      unfold Ieee.Format.read at h
      dsimp only at h
      rw [if_neg (by omega), if_neg (by omega), if_neg (by omega)] at h
      simp [Ieee.Datum.isNaN] at h
  · intro h
    by_cases h1 : x % k.format.signWeight < k.format.infRung
    · rw [read_fin _ x h1]; rfl
    · rw [read_inf _ x (by omega) hb]; rfl

/-- the order of two numbers of one kind -/
theorem ord_key (k : FloatKind) (x y : Nat) : k.format.order x y = if nn k x || nn k y then none else some (compare (key k.format x) (key k.format y)) := by
  have hb : k.format.binade ≤ k.format.infRung := by cases k <;> decide
  have hi : 0 < k.format.infRung := by cases k <;> decide
  cases hx : nn k x
  · cases hy : nn k y
    · exact order_key _ hb hi x y ((nn_iff k x).1 hx) ((nn_iff k y).1 hy)
    · have := order_cn k x y
      rw [← this, cn_of_nan hy]
      cases hh : k.format.order (cn k x) (qn k) with
      | none => rfl
      | some o =>
        exfalso
        have e : k.format.order (cn k x) (qn k) = none := by
          obtain ⟨s, t, e⟩ := decode_nan (nn_qn k)
          cases ha : k.format.read (cn k x) <;> simp [Ieee.Format.order, e, ha, Ieee.Datum.order]
        rw [e] at hh; cases hh
  · have := order_cn k x y
    rw [← this, cn_of_nan hx]
    obtain ⟨s, t, e⟩ := decode_nan (nn_qn k)
    cases ha : k.format.read (cn k y) <;> simp [Ieee.Format.order, e, ha, Ieee.Datum.order]

end Go.Proofs.Ytkbdidpodcclfaa
