/- Plain facts on the model's floats: canonical bits (one not-a-number), operations on them, and the walk's rules that give a result up to the bits of a not-a-number. -/
import Derived.WalkKit
import Derived.WalkLawsBesides
import Derived.Deep.Draws
namespace Go.Proofs.Ytkbdidpodcclfaa
open Go

/-- is it a not-a-number -/
def nn (k : FloatKind) (b : Nat) : Bool := (k.decode b).isNaN
/-- the one not-a-number -/
def qn : FloatKind → Nat
  | .f32 => 0x7fc00000
  | .f64 => 0x7ff8000000000001
/-- canonical bits -/
def cn (k : FloatKind) (b : Nat) : Nat := if nn k b then qn k else b
/-- an operation on bits, with the one not-a-number -/
def fop (op : BinOp) (k : FloatKind) (x y : Nat) : Nat := (floatBits op k x y).getD (qn k)

theorem read_word (f : Ieee.Format) (neg : Bool) (r : Nat) (h : r ≤ f.infRung) : (f.read (f.word neg r)).isNaN = false := by
  have h1 := Ieee.Format.infRung_lt f
  have hs : 0 < f.signWeight := Nat.two_pow_pos _
  have e : f.word neg r % f.signWeight = r := by
    unfold Ieee.Format.word
    split
    · rw [Nat.add_mod_left, Nat.mod_eq_of_lt (by omega)]
    · exact Nat.mod_eq_of_lt (by omega)
  unfold Ieee.Format.read
  simp only [e]
  split
  · rfl
  · split
    · rfl
    · split
      · rfl
      · omega

theorem read_write (f : Ieee.Format) (d : Ieee.Datum) (h : d.isNaN = false) : (f.read (f.write d)).isNaN = false := by
  cases d with
  | number neg mag place =>
    show (f.read (f.nearest neg mag place)).isNaN = false
    unfold Ieee.Format.nearest
    split
    · exact read_word f neg 0 (Nat.zero_le _)
    · exact read_word f neg _ (Nat.min_le_right _ _)
  | infinity neg => exact read_word f neg _ (Nat.le_refl _)
  | nan neg t => simp [Ieee.Datum.isNaN] at h

theorem sum_num {x y d : Ieee.Datum} (h : x.sum y = some d) : d.isNaN = false := by
  cases x <;> cases y <;> simp [Ieee.Datum.sum] at h <;> (try (obtain ⟨_, rfl⟩ := h)) <;> (try subst h) <;> rfl

theorem product_num {x y d : Ieee.Datum} (h : x.product y = some d) : d.isNaN = false := by
  cases x <;> cases y <;> simp [Ieee.Datum.product] at h <;> (try (obtain ⟨_, rfl⟩ := h)) <;> (try subst h) <;> rfl

theorem quotient_num {n : Nat} {x y d : Ieee.Datum} (h : x.quotient n y = some d) : d.isNaN = false := by
  cases x <;> cases y <;> simp [Ieee.Datum.quotient] at h
  · rename_i s m i t k j
    by_cases hk : k = 0
    · by_cases hm : m = 0
      · simp [hk, hm] at h
      · simp [hk, hm] at h; subst h; rfl
    · simp [hk] at h; subst h; rfl
  all_goals (subst h; rfl)

theorem root_num {n : Nat} {x d : Ieee.Datum} (h : x.root n = some d) : d.isNaN = false := by
  cases x with
  | number s m i =>
    simp only [Ieee.Datum.root] at h
    split at h
    · cases h; rfl
    · split at h
      · cases h
      · cases h; rfl
  | infinity s => simp only [Ieee.Datum.root] at h; split at h <;> cases h; rfl
  | nan s t => simp [Ieee.Datum.root] at h

theorem floatBits_num {op : BinOp} {k : FloatKind} {x y r : Nat} (h : floatBits op k x y = some r) : nn k r = false := by
  unfold floatBits at h
  unfold nn FloatKind.decode
  cases op <;> simp only at h <;> first | (cases h; done) | skip
  all_goals
    simp only [Ieee.Format.add, Ieee.Format.sub, Ieee.Format.mul, Ieee.Format.div, Option.map_eq_some_iff] at h
    obtain ⟨d, hd, rfl⟩ := h
  · exact read_write _ _ (sum_num hd)
  · exact read_write _ _ (sum_num hd)
  · exact read_write _ _ (product_num hd)
  · exact read_write _ _ (quotient_num hd)

theorem nn_qn (k : FloatKind) : nn k (qn k) = true := by cases k <;> rfl

theorem cn_of_num {k : FloatKind} {b : Nat} (h : nn k b = false) : cn k b = b := by simp [cn, h]
theorem cn_of_nan {k : FloatKind} {b : Nat} (h : nn k b = true) : cn k b = qn k := by simp [cn, h]

theorem nn_cn (k : FloatKind) (b : Nat) : nn k (cn k b) = nn k b := by
  unfold cn; split
  · rename_i h; rw [nn_qn, h]
  · rfl
theorem cn_cn (k : FloatKind) (b : Nat) : cn k (cn k b) = cn k b := by
  have := nn_cn k b
  cases h : nn k b
  · rw [cn_of_num h, cn_of_num h]
  · rw [cn_of_nan h, cn_of_nan (nn_qn k)]

theorem decode_nan {k : FloatKind} {b : Nat} (h : nn k b = true) : ∃ s t, k.format.read b = .nan s t := by
  unfold nn FloatKind.decode at h
  cases e : k.format.read b <;> simp [e, Ieee.Datum.isNaN] at h
  exact ⟨_, _, rfl⟩

theorem floatBits_nan_left {op : BinOp} {k : FloatKind} {x y : Nat} (h : nn k x = true) : floatBits op k x y = none := by
  obtain ⟨s, t, e⟩ := decode_nan h
  unfold floatBits
  cases op <;> simp only <;> cases hy : k.format.read y <;> simp [Ieee.Format.add, Ieee.Format.sub, Ieee.Format.mul, Ieee.Format.div, e, hy, Ieee.Datum.sum, Ieee.Datum.product, Ieee.Datum.quotient]

theorem floatBits_nan_right {op : BinOp} {k : FloatKind} {x y : Nat} (h : nn k y = true) : floatBits op k x y = none := by
  obtain ⟨s, t, e⟩ := decode_nan h
  unfold floatBits
  cases op <;> simp only <;> cases hx : k.format.read x <;> simp [Ieee.Format.add, Ieee.Format.sub, Ieee.Format.mul, Ieee.Format.div, e, hx, Ieee.Datum.sum, Ieee.Datum.product, Ieee.Datum.quotient, Ieee.Datum.opposite]

theorem floatBits_cn (op : BinOp) (k : FloatKind) (x y : Nat) : floatBits op k (cn k x) (cn k y) = floatBits op k x y := by
  cases hx : nn k x
  · cases hy : nn k y
    · rw [cn_of_num hx, cn_of_num hy]
    · rw [floatBits_nan_right hy, floatBits_nan_right (by rw [nn_cn]; exact hy)]
  · rw [floatBits_nan_left hx, floatBits_nan_left (by rw [nn_cn]; exact hx)]

theorem order_cn (k : FloatKind) (x y : Nat) : k.format.order (cn k x) (cn k y) = k.format.order x y := by
  have L : ∀ a b, nn k a = true → k.format.order a b = none := fun a b h => by
    obtain ⟨s, t, e⟩ := decode_nan h
    cases hb : k.format.read b <;> simp [Ieee.Format.order, e, hb, Ieee.Datum.order]
  have R : ∀ a b, nn k b = true → k.format.order a b = none := fun a b h => by
    obtain ⟨s, t, e⟩ := decode_nan h
    cases ha : k.format.read a <;> simp [Ieee.Format.order, e, ha, Ieee.Datum.order]
  cases hx : nn k x
  · cases hy : nn k y
    · rw [cn_of_num hx, cn_of_num hy]
    · rw [R _ _ hy, R _ _ (by rw [nn_cn]; exact hy)]
  · rw [L _ _ hx, L _ _ (by rw [nn_cn]; exact hx)]

theorem order_self {k : FloatKind} {x : Nat} : k.format.order x x = if nn k x then none else some .eq := by
  unfold nn FloatKind.decode Ieee.Format.order
  cases k.format.read x with
  | number s m i => simp [Ieee.Datum.order, Ieee.Datum.isNaN, compare, compareOfLessAndEq]
  | infinity s => cases s <;> simp [Ieee.Datum.order, Ieee.Datum.isNaN, compare, compareOfLessAndEq]
  | nan s t => simp [Ieee.Datum.order, Ieee.Datum.isNaN]

/-- the bits that the tape gives for a not-a-number are one -/
theorem nan_cut (k : FloatKind) (q : Question) (t : Nat) (hq : ∀ t, q.cut t = (Question.nanBits k 0 0).cut t) : nn k (q.cut t) = true ∧ (Lit.float k (q.cut t)).wf = true := by
  rw [hq]
  cases k
  · have hm : t / 2 % (2 ^ 23 - 1) < 2 ^ 23 - 1 := Nat.mod_lt _ (by decide)
    have ht : t % 2 < 2 := Nat.mod_lt _ (by decide)
    simp only [Question.cut]
    generalize t / 2 % (2 ^ 23 - 1) = a at *
    generalize t % 2 = b at *
    have sw : Ieee.single.signWeight = 2147483648 := by decide
    have bn : Ieee.single.binade = 8388608 := by decide
    have ir : Ieee.single.infRung = 2139095040 := by decide
    have e : (b * 2 ^ 31 + 0x7f800000 + 1 + a) % 2147483648 = 0x7f800000 + 1 + a := by omega
    constructor
    · unfold nn FloatKind.decode FloatKind.format Ieee.Format.read
      simp only [sw, bn, ir, e]
      rw [if_neg (by omega), if_neg (by omega), if_neg (by omega)]
      rfl
    · simp [Lit.wf]; omega
  · have hm : t / 2 % (2 ^ 52 - 1) < 2 ^ 52 - 1 := Nat.mod_lt _ (by decide)
    have ht : t % 2 < 2 := Nat.mod_lt _ (by decide)
    simp only [Question.cut]
    generalize t / 2 % (2 ^ 52 - 1) = a at *
    generalize t % 2 = b at *
    have sw : Ieee.double.signWeight = 9223372036854775808 := by decide
    have bn : Ieee.double.binade = 4503599627370496 := by decide
    have ir : Ieee.double.infRung = 9218868437227405312 := by decide
    have e : (b * 2 ^ 63 + 0x7ff0000000000000 + 1 + a) % 9223372036854775808 = 0x7ff0000000000000 + 1 + a := by omega
    constructor
    · unfold nn FloatKind.decode FloatKind.format Ieee.Format.read
      simp only [sw, bn, ir, e]
      rw [if_neg (by omega), if_neg (by omega), if_neg (by omega)]
      rfl
    · simp [Lit.wf]; omega


def isArith : BinOp → Bool
  | .add | .sub | .mul | .quo => true
  | _ => false

/-- r are bits of the result of an operation -/
def FR (op : BinOp) (k : FloatKind) (m n r : Nat) : Prop := cn k r = fop op k (cn k m) (cn k n) ∧ (Lit.float k r).wf = true

theorem FR_some {op : BinOp} {k : FloatKind} {m n r : Nat} (h : floatBits op k m n = some r) : FR op k m n r :=
  ⟨by rw [fop, floatBits_cn, h, cn_of_num (floatBits_num h)]; rfl, floatBits_wf h⟩
theorem FR_none {op : BinOp} {k : FloatKind} {m n r : Nat} (h : floatBits op k m n = none) (hr : nn k r = true) (hw : (Lit.float k r).wf = true) : FR op k m n r :=
  ⟨by rw [fop, floatBits_cn, h, cn_of_nan hr]; rfl, hw⟩

@[go_sem] theorem run_store_float {P : Program} {w : World} {a : Addr} {m : Mode} (k : FloatKind) (b : Nat) : (store a (.float k b) m).run P w = stored P w a (.float k b) m := run_store P w a _ m rfl
@[go_sem] theorem run_store_complex {P : Program} {w : World} {a : Addr} {m : Mode} (k : FloatKind) (b c : Nat) : (store a (.complex k b c) m).run P w = stored P w a (.complex k b c) m := run_store P w a _ m rfl

section
variable {P : Program}
theorem run_choose {α : Type} (q : Question) (hq : q.forced = false) (f : Nat → α) (w : World) :
    (Sem.bind (choose q) fun t => Sem.pure (f t)).run P w = .ok (f (q.cut (w.tape w.drawn q))) (w.drewN 1) := by
  simp [choose, Sem.bind, Sem.run, hq]
  rfl

theorem run_farith (op : BinOp) (hop : isArith op = true) (t : TypeId) (k : FloatKind) (m n : Nat) (w : World) :
    ∃ r j, FR op k m n r ∧ (binOp op t (.float k m) (.float k n)).run P w = .ok (.float k r) (w.drewN j) := by
  cases h : floatBits op k m n with
  | some r => exact ⟨r, 0, FR_some h, run_float_arith w op t k m n r h⟩
  | none =>
    refine ⟨(Question.nanBits k m n).cut (w.tape w.drawn (.nanBits k m n)), 1, ?_, ?_⟩
    · have := nan_cut k (.nanBits k m n) (w.tape w.drawn (.nanBits k m n)) (by intro t; cases k <;> rfl)
      exact FR_none h this.1 this.2
    · have e : (binOp op t (.float k m) (.float k n)) = (Sem.bind (choose (.nanBits k m n)) fun t => Sem.pure (.float k t)) := by
        unfold floatBits at h
        cases op <;> simp [isArith] at hop <;> simp only at h <;> simp [binOp, Op.floatArith, h] <;> rfl
      rw [e]
      exact run_choose _ (by cases k <;> rfl) _ w

variable {ops : Array Oper} {Q : Exit → Act → World → Prop} {rest : List Oper} {o : Oper} {a : Act} {w : World}
theorem wp_farith {K : Act → World → Prop} (op : BinOp) (t : TypeId) (x y : Operand) (t' : TypeId) (ho : o.op = .binOp op t x y t') (hop : isArith op = true) (k : FloatKind) (m n : Nat)
    (hx : a.eval x = .float k m) (hy : a.eval y = .float k n) (h : ∀ r j, FR op k m n r → K (a.put o.dst (.float k r)) (w.drewN j)) : o.wp P a w K Q := by
  obtain ⟨r, j, hr, hw⟩ := run_farith (P := P) op hop t k m n w
  unfold Oper.wp execOp
  have hg : (eqGuard op t x y (.float k m) (.float k n)) = pure () := by
    cases op <;> simp [isArith] at hop <;> rfl
  simp only [ho, hx, hy, hg, Sem.run_bind, Sem.run_pure, Result.andThen_ok, hw]
  exact h r j hr

theorem wpList_farith (hgd : o.guard = none) (op : BinOp) (t : TypeId) (x y : Operand) (t' : TypeId) (ho : o.op = .binOp op t x y t') (hop : isArith op = true) (k : FloatKind) (m n : Nat)
    (hx : a.eval x = .float k m) (hy : a.eval y = .float k n) (h : ∀ r j, FR op k m n r → wpList P ops Q rest (a.put o.dst (.float k r)) (w.drewN j)) : wpList P ops Q (o :: rest) a w :=
  wpList_plain hgd fun _ hK => wp_farith op t x y t' ho hop k m n hx hy fun r j hr => hK _ _ (h r j hr)

end
end Go.Proofs.Ytkbdidpodcclfaa
