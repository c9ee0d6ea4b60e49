/- Several texts in one, for a claim holds 60 files at most: Fl Fc Run Ord Num Ext Same Cell Fr Loose Sl SlC Rod Open Onl LooseB AppB MarkO Oin Fin PosW Pos RodC RodO Mark MarkR RodX MkXk Facts Facts2 RodL. -/
import Derived.WalkKit
import Derived.WalkLawsBesides
import Derived.Deep.Draws
import Derived.Test.YtkbdidpodcclfaaRows
import Derived.ProofKit
import Derived.OpenShut
import Derived.ShutString
import Derived.ChangeOld
import Derived.Below
import Derived.Lib.Hide
import Derived.Deep.OwnRows
import Derived.Deep.Slices
import Derived.Deep.QuietTactic
import Derived.BigQuiet
import Derived.Lib.SmallJoins
import Derived.Laws.OwnMore
import Derived.Deep.RegionHeld3
import Derived.StillTail

/- Plain facts on the model's floats: canonical bits (one not-a-number), operations on them, and the walk's rules that give a result up to the bits of a not-a-number. -/
namespace Go.Proofs.Ytkbdidpodcclfaa
open Go

/-- is it a not-a-number -/
def nn (k : FloatKind) (b : Nat) : Bool := (k.decode b).isNaN
/-- the one not-a-number -/
def qn : FloatKind → Nat
  | .f32 => 0x7fc00000
  | .f64 => 0x7ff8000000000001
/-- canonical bits -/
def cn (k : FloatKind) (b : Nat) : Nat := if nn k b then qn k else b
/-- an operation on bits, with the one not-a-number -/
def fop (op : BinOp) (k : FloatKind) (x y : Nat) : Nat := (floatBits op k x y).getD (qn k)

theorem read_word (f : Ieee.Format) (neg : Bool) (r : Nat) (h : r ≤ f.infRung) : (f.read (f.word neg r)).isNaN = false := by
  have h1 := Ieee.Format.infRung_lt f
  have hs : 0 < f.signWeight := Nat.two_pow_pos _
  have e : f.word neg r % f.signWeight = r := by
    unfold Ieee.Format.word
    split
    · rw [Nat.add_mod_left, Nat.mod_eq_of_lt (by omega)]
    · exact Nat.mod_eq_of_lt (by omega)
  unfold Ieee.Format.read
  simp only [e]
  split
  · rfl
  · split
    · rfl
    · split
      · rfl
      · omega

theorem read_write (f : Ieee.Format) (d : Ieee.Datum) (h : d.isNaN = false) : (f.read (f.write d)).isNaN = false := by
  cases d with
  | number neg mag place =>
    show (f.read (f.nearest neg mag place)).isNaN = false
    unfold Ieee.Format.nearest
    split
    · exact read_word f neg 0 (Nat.zero_le _)
    · exact read_word f neg _ (Nat.min_le_right _ _)
  | infinity neg => exact read_word f neg _ (Nat.le_refl _)
  | nan neg t => simp [Ieee.Datum.isNaN] at h

theorem sum_num {x y d : Ieee.Datum} (h : x.sum y = some d) : d.isNaN = false := by
  cases x <;> cases y <;> simp [Ieee.Datum.sum] at h <;> (try (obtain ⟨_, rfl⟩ := h)) <;> (try subst h) <;> rfl

theorem product_num {x y d : Ieee.Datum} (h : x.product y = some d) : d.isNaN = false := by
  cases x <;> cases y <;> simp [Ieee.Datum.product] at h <;> (try (obtain ⟨_, rfl⟩ := h)) <;> (try subst h) <;> rfl

theorem quotient_num {n : Nat} {x y d : Ieee.Datum} (h : x.quotient n y = some d) : d.isNaN = false := by
  cases x <;> cases y <;> simp [Ieee.Datum.quotient] at h
  · rename_i s m i t k j
    by_cases hk : k = 0
    · by_cases hm : m = 0
      · simp [hk, hm] at h
      · simp [hk, hm] at h; subst h; rfl
    · simp [hk] at h; subst h; rfl
  all_goals (subst h; rfl)

theorem root_num {n : Nat} {x d : Ieee.Datum} (h : x.root n = some d) : d.isNaN = false := by
  cases x with
  | number s m i =>
    simp only [Ieee.Datum.root] at h
    split at h
    · cases h; rfl
    · split at h
      · cases h
      · cases h; rfl
  | infinity s => simp only [Ieee.Datum.root] at h; split at h <;> cases h; rfl
  | nan s t => simp [Ieee.Datum.root] at h

theorem floatBits_num {op : BinOp} {k : FloatKind} {x y r : Nat} (h : floatBits op k x y = some r) : nn k r = false := by
  unfold floatBits at h
  unfold nn FloatKind.decode
  cases op <;> simp only at h <;> first | (cases h; done) | skip
  all_goals
    simp only [Ieee.Format.add, Ieee.Format.sub, Ieee.Format.mul, Ieee.Format.div, Option.map_eq_some_iff] at h
    obtain ⟨d, hd, rfl⟩ := h
  · exact read_write _ _ (sum_num hd)
  · exact read_write _ _ (sum_num hd)
  · exact read_write _ _ (product_num hd)
  · exact read_write _ _ (quotient_num hd)

theorem nn_qn (k : FloatKind) : nn k (qn k) = true := by cases k <;> rfl

theorem cn_of_num {k : FloatKind} {b : Nat} (h : nn k b = false) : cn k b = b := by simp [cn, h]
theorem cn_of_nan {k : FloatKind} {b : Nat} (h : nn k b = true) : cn k b = qn k := by simp [cn, h]

theorem nn_cn (k : FloatKind) (b : Nat) : nn k (cn k b) = nn k b := by
  unfold cn; split
  · rename_i h; rw [nn_qn, h]
  · rfl
theorem cn_cn (k : FloatKind) (b : Nat) : cn k (cn k b) = cn k b := by
  have := nn_cn k b
  cases h : nn k b
  · rw [cn_of_num h, cn_of_num h]
  · rw [cn_of_nan h, cn_of_nan (nn_qn k)]

theorem decode_nan {k : FloatKind} {b : Nat} (h : nn k b = true) : ∃ s t, k.format.read b = .nan s t := by
  unfold nn FloatKind.decode at h
  cases e : k.format.read b <;> simp [e, Ieee.Datum.isNaN] at h
  exact ⟨_, _, rfl⟩

theorem floatBits_nan_left {op : BinOp} {k : FloatKind} {x y : Nat} (h : nn k x = true) : floatBits op k x y = none := by
  obtain ⟨s, t, e⟩ := decode_nan h
  unfold floatBits
  cases op <;> simp only <;> cases hy : k.format.read y <;> simp [Ieee.Format.add, Ieee.Format.sub, Ieee.Format.mul, Ieee.Format.div, e, hy, Ieee.Datum.sum, Ieee.Datum.product, Ieee.Datum.quotient]

theorem floatBits_nan_right {op : BinOp} {k : FloatKind} {x y : Nat} (h : nn k y = true) : floatBits op k x y = none := by
  obtain ⟨s, t, e⟩ := decode_nan h
  unfold floatBits
  cases op <;> simp only <;> cases hx : k.format.read x <;> simp [Ieee.Format.add, Ieee.Format.sub, Ieee.Format.mul, Ieee.Format.div, e, hx, Ieee.Datum.sum, Ieee.Datum.product, Ieee.Datum.quotient, Ieee.Datum.opposite]

theorem floatBits_cn (op : BinOp) (k : FloatKind) (x y : Nat) : floatBits op k (cn k x) (cn k y) = floatBits op k x y := by
  cases hx : nn k x
  · cases hy : nn k y
    · rw [cn_of_num hx, cn_of_num hy]
    · rw [floatBits_nan_right hy, floatBits_nan_right (by rw [nn_cn]; exact hy)]
  · rw [floatBits_nan_left hx, floatBits_nan_left (by rw [nn_cn]; exact hx)]

theorem order_cn (k : FloatKind) (x y : Nat) : k.format.order (cn k x) (cn k y) = k.format.order x y := by
  have L : ∀ a b, nn k a = true → k.format.order a b = none := fun a b h => by
    obtain ⟨s, t, e⟩ := decode_nan h
    cases hb : k.format.read b <;> simp [Ieee.Format.order, e, hb, Ieee.Datum.order]
  have R : ∀ a b, nn k b = true → k.format.order a b = none := fun a b h => by
    obtain ⟨s, t, e⟩ := decode_nan h
    cases ha : k.format.read a <;> simp [Ieee.Format.order, e, ha, Ieee.Datum.order]
  cases hx : nn k x
  · cases hy : nn k y
    · rw [cn_of_num hx, cn_of_num hy]
    · rw [R _ _ hy, R _ _ (by rw [nn_cn]; exact hy)]
  · rw [L _ _ hx, L _ _ (by rw [nn_cn]; exact hx)]

theorem order_self {k : FloatKind} {x : Nat} : k.format.order x x = if nn k x then none else some .eq := by
  unfold nn FloatKind.decode Ieee.Format.order
  cases k.format.read x with
  | number s m i => simp [Ieee.Datum.order, Ieee.Datum.isNaN, compare, compareOfLessAndEq]
  | infinity s => cases s <;> simp [Ieee.Datum.order, Ieee.Datum.isNaN, compare, compareOfLessAndEq]
  | nan s t => simp [Ieee.Datum.order, Ieee.Datum.isNaN]

/-- the bits that the tape gives for a not-a-number are one -/
theorem nan_cut (k : FloatKind) (q : Question) (t : Nat) (hq : ∀ t, q.cut t = (Question.nanBits k 0 0).cut t) : nn k (q.cut t) = true ∧ (Lit.float k (q.cut t)).wf = true := by
  rw [hq]
  cases k
  · have hm : t / 2 % (2 ^ 23 - 1) < 2 ^ 23 - 1 := Nat.mod_lt _ (by decide)
    have ht : t % 2 < 2 := Nat.mod_lt _ (by decide)
    simp only [Question.cut]
    generalize t / 2 % (2 ^ 23 - 1) = a at *
    generalize t % 2 = b at *
    have sw : Ieee.single.signWeight = 2147483648 := by decide
    have bn : Ieee.single.binade = 8388608 := by decide
    have ir : Ieee.single.infRung = 2139095040 := by decide
    have e : (b * 2 ^ 31 + 0x7f800000 + 1 + a) % 2147483648 = 0x7f800000 + 1 + a := by omega
    constructor
    · unfold nn FloatKind.decode FloatKind.format Ieee.Format.read
      simp only [sw, bn, ir, e]
      rw [if_neg (by omega), if_neg (by omega), if_neg (by omega)]
      rfl
    · simp [Lit.wf]; omega
  · have hm : t / 2 % (2 ^ 52 - 1) < 2 ^ 52 - 1 := Nat.mod_lt _ (by decide)
    have ht : t % 2 < 2 := Nat.mod_lt _ (by decide)
    simp only [Question.cut]
    generalize t / 2 % (2 ^ 52 - 1) = a at *
    generalize t % 2 = b at *
    have sw : Ieee.double.signWeight = 9223372036854775808 := by decide
    have bn : Ieee.double.binade = 4503599627370496 := by decide
    have ir : Ieee.double.infRung = 9218868437227405312 := by decide
    have e : (b * 2 ^ 63 + 0x7ff0000000000000 + 1 + a) % 9223372036854775808 = 0x7ff0000000000000 + 1 + a := by omega
    constructor
    · unfold nn FloatKind.decode FloatKind.format Ieee.Format.read
      simp only [sw, bn, ir, e]
      rw [if_neg (by omega), if_neg (by omega), if_neg (by omega)]
      rfl
    · simp [Lit.wf]; omega


def isArith : BinOp → Bool
  | .add | .sub | .mul | .quo => true
  | _ => false

/-- r are bits of the result of an operation -/
def FR (op : BinOp) (k : FloatKind) (m n r : Nat) : Prop := cn k r = fop op k (cn k m) (cn k n) ∧ (Lit.float k r).wf = true

theorem FR_some {op : BinOp} {k : FloatKind} {m n r : Nat} (h : floatBits op k m n = some r) : FR op k m n r :=
  ⟨by rw [fop, floatBits_cn, h, cn_of_num (floatBits_num h)]; rfl, floatBits_wf h⟩
theorem FR_none {op : BinOp} {k : FloatKind} {m n r : Nat} (h : floatBits op k m n = none) (hr : nn k r = true) (hw : (Lit.float k r).wf = true) : FR op k m n r :=
  ⟨by rw [fop, floatBits_cn, h, cn_of_nan hr]; rfl, hw⟩

@[go_sem] theorem run_store_float {P : Program} {w : World} {a : Addr} {m : Mode} (k : FloatKind) (b : Nat) : (store a (.float k b) m).run P w = stored P w a (.float k b) m := run_store P w a _ m rfl
@[go_sem] theorem run_store_complex {P : Program} {w : World} {a : Addr} {m : Mode} (k : FloatKind) (b c : Nat) : (store a (.complex k b c) m).run P w = stored P w a (.complex k b c) m := run_store P w a _ m rfl

section
variable {P : Program}
theorem run_choose {α : Type} (q : Question) (hq : q.forced = false) (f : Nat → α) (w : World) :
    (Sem.bind (choose q) fun t => Sem.pure (f t)).run P w = .ok (f (q.cut (w.tape w.drawn q))) (w.drewN 1) := by
  simp [choose, Sem.bind, Sem.run, hq]
  rfl

theorem run_farith (op : BinOp) (hop : isArith op = true) (t : TypeId) (k : FloatKind) (m n : Nat) (w : World) :
    ∃ r j, FR op k m n r ∧ (binOp op t (.float k m) (.float k n)).run P w = .ok (.float k r) (w.drewN j) := by
  cases h : floatBits op k m n with
  | some r => exact ⟨r, 0, FR_some h, run_float_arith w op t k m n r h⟩
  | none =>
    refine ⟨(Question.nanBits k m n).cut (w.tape w.drawn (.nanBits k m n)), 1, ?_, ?_⟩
    · have := nan_cut k (.nanBits k m n) (w.tape w.drawn (.nanBits k m n)) (by intro t; cases k <;> rfl)
      exact FR_none h this.1 this.2
    · have e : (binOp op t (.float k m) (.float k n)) = (Sem.bind (choose (.nanBits k m n)) fun t => Sem.pure (.float k t)) := by
        unfold floatBits at h
        cases op <;> simp [isArith] at hop <;> simp only at h <;> simp [binOp, Op.floatArith, h] <;> rfl
      rw [e]
      exact run_choose _ (by cases k <;> rfl) _ w

variable {ops : Array Oper} {Q : Exit → Act → World → Prop} {rest : List Oper} {o : Oper} {a : Act} {w : World}
theorem wp_farith {K : Act → World → Prop} (op : BinOp) (t : TypeId) (x y : Operand) (t' : TypeId) (ho : o.op = .binOp op t x y t') (hop : isArith op = true) (k : FloatKind) (m n : Nat)
    (hx : a.eval x = .float k m) (hy : a.eval y = .float k n) (h : ∀ r j, FR op k m n r → K (a.put o.dst (.float k r)) (w.drewN j)) : o.wp P a w K Q := by
  obtain ⟨r, j, hr, hw⟩ := run_farith (P := P) op hop t k m n w
  unfold Oper.wp execOp
  have hg : (eqGuard op t x y (.float k m) (.float k n)) = pure () := by
    cases op <;> simp [isArith] at hop <;> rfl
  simp only [ho, hx, hy, hg, Sem.run_bind, Sem.run_pure, Result.andThen_ok, hw]
  exact h r j hr

theorem wpList_farith (hgd : o.guard = none) (op : BinOp) (t : TypeId) (x y : Operand) (t' : TypeId) (ho : o.op = .binOp op t x y t') (hop : isArith op = true) (k : FloatKind) (m n : Nat)
    (hx : a.eval x = .float k m) (hy : a.eval y = .float k n) (h : ∀ r j, FR op k m n r → wpList P ops Q rest (a.put o.dst (.float k r)) (w.drewN j)) : wpList P ops Q (o :: rest) a w :=
  wpList_plain hgd fun _ hK => wp_farith op t x y t' ho hop k m n hx hy fun r j hr => hK _ _ (h r j hr)

end
end Go.Proofs.Ytkbdidpodcclfaa

/- Conversions between the two float kinds, and the walk's rules for them. -/
namespace Go.Proofs.Ytkbdidpodcclfaa
open Go

theorem read_word_fin (f : Ieee.Format) (neg : Bool) (r : Nat) (h : r < f.infRung) : (f.read (f.word neg r)).isInfinity = false := by
  have h1 := Ieee.Format.infRung_lt f
  have hs : 0 < f.signWeight := Nat.two_pow_pos _
  have e : f.word neg r % f.signWeight = r := by
    unfold Ieee.Format.word
    split
    · rw [Nat.add_mod_left, Nat.mod_eq_of_lt (by omega)]
    · exact Nat.mod_eq_of_lt (by omega)
  unfold Ieee.Format.read
  simp only [e]
  split
  · rfl
  · first | rfl | (rw [if_pos h]; rfl)

theorem read_single_bounds {b : Nat} {s : Bool} {m : Nat} {e : Int} (h : Ieee.single.read b = .number s m e) : m < 2 ^ 24 ∧ -149 ≤ e ∧ e ≤ 104 := by
  have sw : Ieee.single.signWeight = 2147483648 := by decide
  have bn : Ieee.single.binade = 8388608 := by decide
  have ir : Ieee.single.infRung = 2139095040 := by decide
  have lp : Ieee.single.leastPlace = -149 := by decide
  unfold Ieee.Format.read at h
  simp only [sw, bn, ir, lp] at h
  split at h
  · simp only [Ieee.Datum.number.injEq] at h
    omega
  · split at h
    · simp only [Ieee.Datum.number.injEq] at h
      omega
    · split at h <;> simp at h

theorem cut_zero (neg : Bool) (n : Nat) : Ieee.Toward.even.cut neg n 0 = n := by
  unfold Ieee.Toward.cut
  simp [Nat.mod_one]

theorem up_num (T K : Nat) (hT : T ≤ 1149) (hK : K < 9007199254740992) : min (T * 4503599627370496 + K) 9218868437227405312 < 9218868437227405312 :=
  Nat.lt_of_le_of_lt (Nat.min_le_left _ _) (by omega)

theorem up_kept (m : Nat) (hl : m.log2 < 24) : m * 2 ^ (52 - m.log2) < 9007199254740992 := by
  have hup : m < 2 ^ (m.log2 + 1) := Nat.lt_log2_self
  have h : m * 2 ^ (52 - m.log2) < 2 ^ (m.log2 + 1) * 2 ^ (52 - m.log2) := Nat.mul_lt_mul_of_pos_right hup (Nat.two_pow_pos _)
  rw [← Nat.pow_add, show m.log2 + 1 + (52 - m.log2) = 53 by omega] at h
  exact h

theorem double_inf : Ieee.double.infRung = 9218868437227405312 := by decide
theorem double_binade : Ieee.double.binade = 4503599627370496 := by decide
theorem double_least : Ieee.double.leastPlace = -1074 := by decide
theorem double_fraction : (Ieee.double.fractionBits : Int) = 52 := by decide

theorem up_nearest (s : Bool) (m : Nat) (e : Int) (hz : m ≠ 0) (hl : m.log2 < 24) (h0 : -149 ≤ e) (h1 : e ≤ 104) :
    ∃ r, Ieee.double.nearest s m e = Ieee.double.word s r ∧ r < 9218868437227405312 := by
  have e1 : max (e + (m.log2 : Int) - 52) (-1074) = e + (m.log2 : Int) - 52 := by omega
  have e2 : (e + (m.log2 : Int) - 52 - e).toNat = 0 := by omega
  have e3 : (e - (e + (m.log2 : Int) - 52)).toNat = 52 - m.log2 := by omega
  have e4 : (e + (m.log2 : Int) - 52 - -1074).toNat ≤ 1149 := by omega
  refine ⟨min ((e + (m.log2 : Int) - 52 - -1074).toNat * 4503599627370496 + m * 2 ^ (52 - m.log2)) 9218868437227405312, ?_, up_num _ _ e4 (up_kept m hl)⟩
  unfold Ieee.Format.nearest
  rw [if_neg hz]
  simp only [double_least, double_fraction, double_binade, double_inf, e1, e2, e3, cut_zero, Nat.shiftLeft_eq]

theorem up_fits (s : Bool) (m : Nat) (e : Int) (hm : m < 2 ^ 24) (h0 : -149 ≤ e) (h1 : e ≤ 104) : (Ieee.double.read (Ieee.double.write (.number s m e))).isInfinity = false := by
  show (Ieee.double.read (Ieee.double.nearest s m e)).isInfinity = false
  by_cases hz : m = 0
  · subst hz
    exact read_word_fin Ieee.double s 0 (by rw [double_inf]; omega)
  · obtain ⟨r, er, hr⟩ := up_nearest s m e hz ((Nat.log2_lt hz).2 hm) h0 h1
    rw [er]
    exact read_word_fin _ _ _ (by rw [double_inf]; exact hr)

theorem up_some {b : Nat} (h : nn .f32 b = false) : ∃ r, floatToFloatBits .f32 b .f64 = some r := by
  unfold floatToFloatBits
  rw [if_neg (by decide)]
  unfold nn at h
  cases e : FloatKind.f32.decode b with
  | nan s t => rw [e] at h; simp [Ieee.Datum.isNaN] at h
  | infinity s => exact ⟨_, rfl⟩
  | number s m i =>
    obtain ⟨hm, h0, h1⟩ := read_single_bounds (show Ieee.single.read b = _ from e)
    have hf := up_fits s m i hm h0 h1
    simp only
    rw [if_neg (by rw [show FloatKind.f64.decode (FloatKind.f64.encode (.number s m i)) = Ieee.double.read (Ieee.double.write (.number s m i)) from rfl, hf]; simp)]
    exact ⟨_, rfl⟩

theorem ftf_num {s d : FloatKind} {b r : Nat} (hsd : s ≠ d) (h : floatToFloatBits s b d = some r) : nn d r = false := by
  unfold floatToFloatBits at h
  rw [if_neg hsd] at h
  split at h
  · cases h
  · cases h; exact read_write _ _ rfl
  · split at h
    · cases h
    · cases h; exact read_write _ _ rfl

theorem ftf_nan {s d : FloatKind} {b : Nat} (hsd : s ≠ d) (h : nn s b = true) : floatToFloatBits s b d = none := by
  obtain ⟨sg, t, e⟩ := decode_nan h
  unfold floatToFloatBits FloatKind.decode
  rw [if_neg hsd, e]

/-- a 32-bit number made a 64-bit one -/
def cvu (b : Nat) : Nat := (floatToFloatBits .f32 b .f64).getD (qn .f64)
/-- narrowing, of what is not too great -/
def cvd (b : Nat) : Nat := (floatToFloatBits .f64 b .f32).getD (qn .f32)
/-- too great to be narrowed -/
def ovf (b : Nat) : Bool := !nn .f64 b && (floatToFloatBits .f64 b .f32).isNone

def UR (m r : Nat) : Prop := cn .f64 r = cvu (cn .f32 m) ∧ (Lit.float .f64 r).wf = true
def DR (m r : Nat) : Prop := (ovf (cn .f64 m) = false → cn .f32 r = cvd (cn .f64 m)) ∧ (Lit.float .f32 r).wf = true

section
variable {P : Program}
theorem nan_conv_wf (k : FloatKind) (b t : Nat) : nn k ((Question.nanConv k b).cut t) = true ∧ (Lit.float k ((Question.nanConv k b).cut t)).wf = true :=
  nan_cut k (.nanConv k b) t (by intro t; cases k <;> rfl)

theorem run_cvt_nan {S D : TypeId} {s d : FloatKind} (hs : P.underlying S = some (.float s)) (hd : P.underlying D = some (.float d)) (hsd : s ≠ d) (b : Nat) (w : World) (h : nn s b = true) :
    (convert S D (.float s b)).run P w = .ok (.float d ((Question.nanConv d b).cut (w.tape w.drawn (.nanConv d b)))) (w.drewN 1) := by
  obtain ⟨sg, t, e⟩ := decode_nan h
  have e' : (convert S D (.float s b)).run P w = (Sem.bind (choose (.nanConv d b)) fun t => Sem.pure (.float d t)).run P w := by
    simp only [convert, Sem.run_bind, run_underlying hs, run_underlying hd, Result.andThen_ok, Conv.floatToFloat, if_neg hsd]
    rw [show s.decode b = .nan sg t from e]
    rfl
  rw [e']
  exact run_choose _ (by cases d <;> rfl) _ w

theorem run_up {S D : TypeId} (hs : P.underlying S = some (.float .f32)) (hd : P.underlying D = some (.float .f64)) (m : Nat) (w : World) :
    ∃ r j, UR m r ∧ (convert S D (.float .f32 m)).run P w = .ok (.float .f64 r) (w.drewN j) := by
  cases h : nn .f32 m
  · obtain ⟨r, hr⟩ := up_some h
    refine ⟨r, 0, ⟨?_, ?_⟩, run_convert_float_float w S D .f32 .f64 m r (by rw [hs]; rfl) hd hr⟩
    · rw [cn_of_num h, cn_of_num (ftf_num (by decide) hr), cvu, hr]; rfl
    · unfold floatToFloatBits at hr
      rw [if_neg (by decide)] at hr
      split at hr
      · cases hr
      · cases hr; exact encode_wf ..
      · split at hr
        · cases hr
        · cases hr; exact encode_wf ..
  · have hc := nan_conv_wf .f64 m (w.tape w.drawn (.nanConv .f64 m))
    refine ⟨_, 1, ⟨?_, hc.2⟩, run_cvt_nan hs hd (by decide) m w h⟩
    rw [cn_of_nan hc.1, cn_of_nan h, cvu, ftf_nan (by decide) (nn_qn _)]; rfl

theorem run_down {S D : TypeId} (hs : P.underlying S = some (.float .f64)) (hd : P.underlying D = some (.float .f32)) (m : Nat) (w : World) :
    ∃ r j, DR m r ∧ (convert S D (.float .f64 m)).run P w = .ok (.float .f32 r) (w.drewN j) := by
  cases h : nn .f64 m
  · cases hr : floatToFloatBits .f64 m .f32 with
    | some r =>
      refine ⟨r, 0, ⟨fun _ => ?_, ?_⟩, run_convert_float_float w S D .f64 .f32 m r (by rw [hs]; rfl) hd hr⟩
      · rw [cn_of_num h, cn_of_num (ftf_num (by decide) hr), cvd, hr]; rfl
      · unfold floatToFloatBits at hr
        rw [if_neg (by decide)] at hr
        split at hr
        · cases hr
        · cases hr; exact encode_wf ..
        · split at hr
          · cases hr
          · cases hr; exact encode_wf ..
    | none =>
      refine ⟨(Question.floatToFloat m).cut (w.tape w.drawn (.floatToFloat m)), 1, ⟨fun ho => ?_, ?_⟩, ?_⟩
      · rw [cn_of_num h] at ho
        simp [ovf, h, hr] at ho
      · have : (Question.floatToFloat m).cut (w.tape w.drawn (.floatToFloat m)) < 2 ^ 32 := Nat.mod_lt _ (by decide)
        simpa [Lit.wf] using this
      · have e' : (convert S D (.float .f64 m)).run P w = (Sem.bind (choose (.floatToFloat m)) fun t => Sem.pure (.float .f32 t)).run P w := by
          simp only [convert, Sem.run_bind, run_underlying hs, run_underlying hd, Result.andThen_ok, Conv.floatToFloat]
          rw [if_neg (by decide)]
          unfold floatToFloatBits at hr
          rw [if_neg (by decide)] at hr
          split at hr
          · rename_i he; unfold nn at h; rw [he] at h; simp [Ieee.Datum.isNaN] at h
          · cases hr
          · rename_i sg mm ee he
            split at hr
            · rename_i hi
              rw [he]
              simp only [hi, if_true]
              rfl
            · cases hr
        rw [e']
        exact run_choose _ rfl _ w
  · have hc := nan_conv_wf .f32 m (w.tape w.drawn (.nanConv .f32 m))
    refine ⟨_, 1, ⟨fun _ => ?_, hc.2⟩, run_cvt_nan hs hd (by decide) m w h⟩
    rw [cn_of_nan hc.1, cn_of_nan h, cvd, ftf_nan (by decide) (nn_qn _)]; rfl

variable {ops : Array Oper} {Q : Exit → Act → World → Prop} {rest : List Oper} {o : Oper} {a : Act} {w : World}
theorem wp_up {K : Act → World → Prop} {S D : TypeId} (hs : P.underlying S = some (.float .f32)) (hd : P.underlying D = some (.float .f64)) (x : Operand) (ho : o.op = .convert S D x) (m : Nat)
    (hx : a.eval x = .float .f32 m) (h : ∀ r j, UR m r → K (a.put o.dst (.float .f64 r)) (w.drewN j)) : o.wp P a w K Q := by
  obtain ⟨r, j, hr, hw⟩ := run_up hs hd m w
  unfold Oper.wp execOp
  simp only [ho, hx, Sem.run_bind, Sem.run_pure, Result.andThen_ok, hw]
  exact h r j hr
theorem wpList_up (hgd : o.guard = none) {S D : TypeId} (hs : P.underlying S = some (.float .f32)) (hd : P.underlying D = some (.float .f64)) (x : Operand) (ho : o.op = .convert S D x) (m : Nat)
    (hx : a.eval x = .float .f32 m) (h : ∀ r j, UR m r → wpList P ops Q rest (a.put o.dst (.float .f64 r)) (w.drewN j)) : wpList P ops Q (o :: rest) a w :=
  wpList_plain hgd fun _ hK => wp_up hs hd x ho m hx fun r j hr => hK _ _ (h r j hr)
theorem wp_down {K : Act → World → Prop} {S D : TypeId} (hs : P.underlying S = some (.float .f64)) (hd : P.underlying D = some (.float .f32)) (x : Operand) (ho : o.op = .convert S D x) (m : Nat)
    (hx : a.eval x = .float .f64 m) (h : ∀ r j, DR m r → K (a.put o.dst (.float .f32 r)) (w.drewN j)) : o.wp P a w K Q := by
  obtain ⟨r, j, hr, hw⟩ := run_down hs hd m w
  unfold Oper.wp execOp
  simp only [ho, hx, Sem.run_bind, Sem.run_pure, Result.andThen_ok, hw]
  exact h r j hr
theorem wpList_down (hgd : o.guard = none) {S D : TypeId} (hs : P.underlying S = some (.float .f64)) (hd : P.underlying D = some (.float .f32)) (x : Operand) (ho : o.op = .convert S D x) (m : Nat)
    (hx : a.eval x = .float .f64 m) (h : ∀ r j, DR m r → wpList P ops Q rest (a.put o.dst (.float .f32 r)) (w.drewN j)) : wpList P ops Q (o :: rest) a w :=
  wpList_plain hgd fun _ hK => wp_down hs hd x ho m hx fun r j hr => hK _ _ (h r j hr)
end
end Go.Proofs.Ytkbdidpodcclfaa

/- What every frame of this seat uses: the program's closed facts, and the post of a law's walk. -/
namespace Go.Proofs.Ytkbdidpodcclfaa
open Go.RowKit

theorem own : ownKnob Try.prog.godebug = none := by kernel_rfl
theorem laidOut : laidOutB Try.prog = true := by kernel_rfl

/-- the law answers true, and nothing that was there has turned -/
def Tru (w : World) (e : Ending) (w' : World) : Prop := e = .returned (.bool true) ∧ Below w.heap.size w w'

theorem below_drewN {B : Nat} {a w : World} (h : Below B a w) (n : Nat) : Below B a (w.drewN n) := ⟨h.os, h.tape, h.output, h.size, h.block⟩
theorem below_undrew {B : Nat} {a w : World} {n : Nat} (h : Below B (a.drewN n) w) : Below B a w := ⟨h.os, h.tape, h.output, h.size, h.block⟩
theorem below_step {w w1 w2 : World} (h : Below w.heap.size w w1) (h2 : Below w1.heap.size w1 w2) : Below w.heap.size w w2 := h.trans (h2.mono h.size)
theorem Tru.below {w w' : World} (h : Below w.heap.size w w') : Tru w (.returned (.bool true)) w' := ⟨rfl, h⟩
theorem Tru.same {w : World} : Tru w (.returned (.bool true)) w := ⟨rfl, Below.refl _ _⟩
theorem Tru.drewN {w : World} {n : Nat} : Tru w (.returned (.bool true)) (w.drewN n) := ⟨rfl, below_drewN (Below.refl _ _) n⟩

end Go.Proofs.Ytkbdidpodcclfaa

/- The order of two floats as the order of two integers that are read off their bits. -/
namespace Go.Proofs.Ytkbdidpodcclfaa

def mg (f : Ieee.Format) (r : Nat) : Nat := if r < f.binade then r else f.binade + r % f.binade
def ex (f : Ieee.Format) (r : Nat) : Nat := r / f.binade - 1
def vl (f : Ieee.Format) (r : Nat) : Nat := mg f r * 2 ^ ex f r

theorem binade_pos (f : Ieee.Format) : 0 < f.binade := Nat.two_pow_pos _

theorem vl_lt (f : Ieee.Format) {a b : Nat} (h : a < b) : vl f a < vl f b := by
  have hB := binade_pos f
  unfold vl mg ex
  generalize f.binade = B at *
  have ma := Nat.mod_lt a hB
  have mb := Nat.mod_lt b hB
  have da := Nat.div_add_mod a B
  have db := Nat.div_add_mod b B
  by_cases h1 : a < B
  · have ea : a / B = 0 := Nat.div_eq_of_lt h1
    rw [if_pos h1, ea]
    by_cases h2 : b < B
    · rw [if_pos h2, Nat.div_eq_of_lt h2]; simpa using h
    · rw [if_neg h2]
      have p : 0 < 2 ^ (b / B - 1) := Nat.two_pow_pos _
      have : B + b % B ≤ (B + b % B) * 2 ^ (b / B - 1) := Nat.le_mul_of_pos_right _ p
      simp only [Nat.zero_sub, Nat.pow_zero, Nat.mul_one]
      omega
  · have h2 : ¬ b < B := by omega
    rw [if_neg h1, if_neg h2]
    have qa : 1 ≤ a / B := (Nat.one_le_div_iff hB).2 (by omega)
    have qle : a / B ≤ b / B := Nat.div_le_div_right (by omega)
    by_cases hq : a / B = b / B
    · rw [hq] at da ⊢
      have : a % B < b % B := by omega
      exact Nat.mul_lt_mul_of_pos_right (by omega) (Nat.two_pow_pos _)
    · have l1 : (B + a % B) * 2 ^ (a / B - 1) < (B + B) * 2 ^ (a / B - 1) := Nat.mul_lt_mul_of_pos_right (by omega) (Nat.two_pow_pos _)
      have l2 : (B + B) * 2 ^ (a / B - 1) = B * 2 ^ (a / B) := by
        rw [← Nat.two_mul, Nat.mul_comm 2 B, Nat.mul_assoc, ← Nat.pow_succ']
        congr 2; omega
      have l3 : B * 2 ^ (a / B) ≤ B * 2 ^ (b / B - 1) := Nat.mul_le_mul_left _ (Nat.pow_le_pow_right (by decide) (by omega))
      have l4 : B * 2 ^ (b / B - 1) ≤ (B + b % B) * 2 ^ (b / B - 1) := Nat.mul_le_mul_right _ (by omega)
      omega

theorem vl_lt_iff (f : Ieee.Format) (a b : Nat) : vl f a < vl f b ↔ a < b := by
  refine ⟨fun h => ?_, vl_lt f⟩
  rcases Nat.lt_trichotomy a b with h1 | h1 | h1
  · exact h1
  · subst h1; omega
  · have := vl_lt f h1; omega

theorem scaled (f : Ieee.Format) (r n : Nat) (h : n ≤ ex f r) : (mg f r <<< (ex f r - n)) * 2 ^ n = vl f r := by
  unfold vl
  rw [Nat.shiftLeft_eq, Nat.mul_assoc, ← Nat.pow_add]
  congr 2; omega

/-- the integer that a word's place in the order is -/
def key (f : Ieee.Format) (x : Nat) : Int := if x / f.signWeight % 2 == 1 then -((x % f.signWeight : Nat) : Int) else ((x % f.signWeight : Nat) : Int)
def notNan (f : Ieee.Format) (x : Nat) : Prop := x % f.signWeight ≤ f.infRung

theorem read_fin (f : Ieee.Format) (x : Nat) (h : x % f.signWeight < f.infRung) :
    f.read x = .number (x / f.signWeight % 2 == 1) (mg f (x % f.signWeight)) (f.leastPlace + (ex f (x % f.signWeight) : Nat)) := by
  unfold Ieee.Format.read mg ex
  dsimp only
  by_cases h1 : x % f.signWeight < f.binade
  · rw [if_pos h1, if_pos h1, Nat.div_eq_of_lt h1]; simp
  · rw [if_neg h1, if_neg h1, if_pos h]

theorem read_inf (f : Ieee.Format) (x : Nat) (h : x % f.signWeight = f.infRung) (hb : f.binade ≤ f.infRung) : f.read x = .infinity (x / f.signWeight % 2 == 1) := by
  unfold Ieee.Format.read
  dsimp only
  rw [if_neg (by omega), if_neg (by omega), if_pos h]

theorem compare_congr {x y x' y' : Int} (h1 : x < y ↔ x' < y') (h2 : x = y ↔ x' = y') : compare x y = compare x' y' := by
  simp only [compare, compareOfLessAndEq]
  by_cases a : x < y
  · rw [if_pos a, if_pos (h1.1 a)]
  · rw [if_neg a, if_neg (fun b => a (h1.2 b))]
    by_cases c : x = y
    · rw [if_pos c, if_pos (h2.1 c)]
    · rw [if_neg c, if_neg (fun b => c (h2.2 b))]

theorem order_key (f : Ieee.Format) (hb : f.binade ≤ f.infRung) (hi : 0 < f.infRung) (x y : Nat) (hx : notNan f x) (hy : notNan f y) : f.order x y = some (compare (key f x) (key f y)) := by
  unfold notNan at hx hy
  unfold Ieee.Format.order key
  generalize hs : (x / f.signWeight % 2 == 1) = s
  generalize ht : (y / f.signWeight % 2 == 1) = t
  by_cases h1 : x % f.signWeight < f.infRung
  · rw [read_fin f x h1, hs]
    generalize x % f.signWeight = a at *
    by_cases h2 : y % f.signWeight < f.infRung
    · rw [read_fin f y h2, ht]
      generalize y % f.signWeight = b at *
      simp only [Ieee.Datum.order]
      congr 1
      have e1 : (f.leastPlace + (ex f a : Int) - min (f.leastPlace + (ex f a : Int)) (f.leastPlace + (ex f b : Int))).toNat = ex f a - min (ex f a) (ex f b) := by omega
      have e2 : (f.leastPlace + (ex f b : Int) - min (f.leastPlace + (ex f a : Int)) (f.leastPlace + (ex f b : Int))).toNat = ex f b - min (ex f a) (ex f b) := by omega
      rw [e1, e2]
      have sa := scaled f a (min (ex f a) (ex f b)) (Nat.min_le_left _ _)
      have sb := scaled f b (min (ex f a) (ex f b)) (Nat.min_le_right _ _)
      have hp : 0 < 2 ^ min (ex f a) (ex f b) := Nat.two_pow_pos _
      have v1 := vl_lt_iff f a b
      have v2 := vl_lt_iff f b a
      have z1 := vl_lt_iff f 0 a
      have z2 := vl_lt_iff f 0 b
      have v0 : vl f 0 = 0 := by unfold vl mg; rw [if_pos (binade_pos f)]; simp
      rw [v0] at z1 z2
      rw [← sa, ← sb] at v1 v2
      rw [← sa] at z1
      rw [← sb] at z2
      simp only [Ieee.signed]
      generalize mg f a <<< (ex f a - min (ex f a) (ex f b)) = A at *
      generalize mg f b <<< (ex f b - min (ex f a) (ex f b)) = C at *
      generalize 2 ^ min (ex f a) (ex f b) = D at *
      have w1 : A < C ↔ a < b := by rw [← v1]; exact ⟨fun h => Nat.mul_lt_mul_of_pos_right h hp, fun h => Nat.lt_of_mul_lt_mul_right h⟩
      have w2 : C < A ↔ b < a := by rw [← v2]; exact ⟨fun h => Nat.mul_lt_mul_of_pos_right h hp, fun h => Nat.lt_of_mul_lt_mul_right h⟩
      have w3 : 0 < A ↔ 0 < a := by rw [← z1]; exact ⟨fun h => Nat.mul_pos h hp, fun h => Nat.pos_of_mul_pos_right h⟩
      have w4 : 0 < C ↔ 0 < b := by rw [← z2]; exact ⟨fun h => Nat.mul_pos h hp, fun h => Nat.pos_of_mul_pos_right h⟩
      clear v1 v2 z1 z2 sa sb e1 e2 hs ht h1 h2 hx hy
      apply compare_congr <;> cases s <;> cases t <;> simp only [if_true, if_false, Bool.false_eq_true] <;> omega
    · have h3 : y % f.signWeight = f.infRung := by omega
      rw [read_inf f y h3 hb, ht, h3]
      simp only [Ieee.Datum.order]
      congr 1
      cases t
      · simp only [Bool.false_eq_true, if_false, compare, compareOfLessAndEq]
        rw [if_pos (by split <;> omega)]
      · simp only [if_true, compare, compareOfLessAndEq]
        rw [if_neg (by split <;> omega), if_neg (by split <;> omega)]
  · have h3 : x % f.signWeight = f.infRung := by omega
    rw [read_inf f x h3 hb, hs, h3]
    by_cases h2 : y % f.signWeight < f.infRung
    · rw [read_fin f y h2, ht]
      simp only [Ieee.Datum.order]
      congr 1
      cases s
      · simp only [Bool.false_eq_true, if_false, compare, compareOfLessAndEq]
        rw [if_neg (by split <;> omega), if_neg (by split <;> omega)]
      · simp only [if_true, compare, compareOfLessAndEq]
        rw [if_pos (by split <;> omega)]
    · have h4 : y % f.signWeight = f.infRung := by omega
      rw [read_inf f y h4 hb, ht, h4]
      simp only [Ieee.Datum.order]
      congr 1
      have hI : (0 : Int) < (f.infRung : Int) := by omega
      generalize (f.infRung : Int) = I at *
      cases s <;> cases t
      · show Ordering.eq = compare I I
        simp only [compare, compareOfLessAndEq]
        rw [if_neg (by omega), if_pos trivial]
      · show Ordering.gt = compare I (-I)
        simp only [compare, compareOfLessAndEq]
        rw [if_neg (by omega), if_neg (by omega)]
      · show Ordering.lt = compare (-I) I
        simp only [compare, compareOfLessAndEq]
        rw [if_pos (by omega)]
      · show Ordering.eq = compare (-I) (-I)
        simp only [compare, compareOfLessAndEq]
        rw [if_neg (by omega), if_pos trivial]

theorem nn_iff (k : FloatKind) (x : Nat) : nn k x = false ↔ notNan k.format x := by
  unfold nn notNan FloatKind.decode
  have hb : k.format.binade ≤ k.format.infRung := by cases k <;> decide
  constructor
  · intro h
    by_cases h1 : x % k.format.signWeight ≤ k.format.infRung
    · exact h1
    · exfalso
      unfold Ieee.Format.read at h
      dsimp only at h
      rw [if_neg (by omega), if_neg (by omega), if_neg (by omega)] at h
      simp [Ieee.Datum.isNaN] at h
  · intro h
    by_cases h1 : x % k.format.signWeight < k.format.infRung
    · rw [read_fin _ x h1]; rfl
    · rw [read_inf _ x (by omega) hb]; rfl

/-- the order of two numbers of one kind -/
theorem ord_key (k : FloatKind) (x y : Nat) : k.format.order x y = if nn k x || nn k y then none else some (compare (key k.format x) (key k.format y)) := by
  have hb : k.format.binade ≤ k.format.infRung := by cases k <;> decide
  have hi : 0 < k.format.infRung := by cases k <;> decide
  cases hx : nn k x
  · cases hy : nn k y
    · exact order_key _ hb hi x y ((nn_iff k x).1 hx) ((nn_iff k y).1 hy)
    · have := order_cn k x y
      rw [← this, cn_of_nan hy]
      cases hh : k.format.order (cn k x) (qn k) with
      | none => rfl
      | some o =>
        exfalso
        have e : k.format.order (cn k x) (qn k) = none := by
          obtain ⟨s, t, e⟩ := decode_nan (nn_qn k)
          cases ha : k.format.read (cn k x) <;> simp [Ieee.Format.order, e, ha, Ieee.Datum.order]
        rw [e] at hh; cases hh
  · have := order_cn k x y
    rw [← this, cn_of_nan hx]
    obtain ⟨s, t, e⟩ := decode_nan (nn_qn k)
    cases ha : k.format.read (cn k y) <;> simp [Ieee.Format.order, e, ha, Ieee.Datum.order]

end Go.Proofs.Ytkbdidpodcclfaa

/- Finite numbers, subnormal numbers, absolute values, and the masks by which bits are told. -/
namespace Go.Proofs.Ytkbdidpodcclfaa

/-- a number that is finite -/
def fin (k : FloatKind) (b : Nat) : Bool := !nn k b && !(k.decode b).isInfinity

theorem fin_nan {k : FloatKind} {b : Nat} (h : nn k b = true) : fin k b = false := by simp [fin, h]
theorem fin_cn (k : FloatKind) (b : Nat) : fin k (cn k b) = fin k b := by
  cases h : nn k b
  · rw [cn_of_num h]
  · rw [cn_of_nan h, fin_nan h, fin_nan (nn_qn k)]

theorem fin_number {k : FloatKind} {b : Nat} (h : fin k b = true) : ∃ s m e, k.format.read b = .number s m e := by
  unfold fin nn FloatKind.decode at h
  cases e : k.format.read b with
  | number s m i => exact ⟨s, m, i, rfl⟩
  | infinity s => rw [e] at h; simp [Ieee.Datum.isInfinity] at h
  | nan s t => rw [e] at h; simp [Ieee.Datum.isNaN] at h

theorem inf_of {k : FloatKind} {b : Nat} (h : fin k b = false) (hn : nn k b = false) : ∃ s, k.format.read b = .infinity s := by
  unfold fin at h
  rw [hn] at h
  unfold nn FloatKind.decode at hn
  unfold FloatKind.decode at h
  cases e : k.format.read b with
  | number s m i => rw [e] at h; simp [Ieee.Datum.isInfinity] at h
  | infinity s => exact ⟨s, rfl⟩
  | nan s t => rw [e] at hn; simp [Ieee.Datum.isNaN] at hn

theorem sub_self_fin {k : FloatKind} {b : Nat} (h : fin k b = true) : floatBits .sub k b b = some 0 := by
  obtain ⟨s, m, e, hr⟩ := fin_number h
  unfold floatBits Ieee.Format.sub
  simp only [hr, Ieee.Datum.opposite, Ieee.Datum.sum]
  have hz : Ieee.signed s m (e - min e e).toNat + Ieee.signed (!s) m (e - min e e).toNat = 0 := by
    unfold Ieee.signed; cases s <;> simp <;> omega
  rw [hz]
  cases s <;> cases k <;> rfl

theorem sub_self_inf {k : FloatKind} {b : Nat} (h : fin k b = false) : floatBits .sub k b b = none := by
  cases hn : nn k b
  · obtain ⟨s, hr⟩ := inf_of h hn
    unfold floatBits Ieee.Format.sub
    simp only [hr, Ieee.Datum.opposite, Ieee.Datum.sum]
    cases s <;> rfl
  · exact floatBits_nan_left hn

theorem zero_self (k : FloatKind) : k.format.order 0 0 = some .eq := by cases k <;> rfl
theorem qn_order (k : FloatKind) (z : Nat) : k.format.order (qn k) z = none := by
  obtain ⟨s, t, e⟩ := decode_nan (nn_qn k)
  cases ha : k.format.read z <;> simp [Ieee.Format.order, e, ha, Ieee.Datum.order]

/-- what is taken from itself is zero for finite numbers alone -/
theorem sub_zero {k : FloatKind} {a r : Nat} (h : FR .sub k a a r) : (k.format.order r 0 == some .eq) = fin k a := by
  rw [← order_cn k r 0, h.1, fop, floatBits_cn]
  have h0 : cn k 0 = 0 := by cases k <;> rfl
  cases hf : fin k a
  · rw [sub_self_inf hf]
    show (k.format.order (qn k) (cn k 0) == some .eq) = false
    rw [qn_order]; rfl
  · rw [sub_self_fin hf]
    show (k.format.order 0 (cn k 0) == some .eq) = true
    rw [h0, zero_self]; rfl

theorem fin_write_inf {d : FloatKind} (s : Bool) : fin d (d.encode (.infinity s)) = false := by cases d <;> cases s <;> rfl

/-- a 32-bit number made a 64-bit one is finite as it was -/
theorem fin_up {a r : Nat} (h : UR a r) : fin .f64 r = fin .f32 a := by
  rw [← fin_cn .f64 r, h.1, ← fin_cn .f32 a]
  generalize hc : cn .f32 a = c
  cases hn : nn .f32 c
  · obtain ⟨u, hu⟩ := up_some hn
    rw [cvu, hu]
    show fin .f64 u = _
    unfold floatToFloatBits at hu
    rw [if_neg (by decide)] at hu
    split at hu
    · cases hu
    · rename_i s he
      cases hu
      rw [fin_write_inf]
      symm
      unfold fin
      rw [he]; simp [Ieee.Datum.isInfinity]
    · rename_i s m e he
      split at hu
      · cases hu
      · rename_i hi
        cases hu
        have e1 : nn .f64 (FloatKind.f64.encode (.number s m e)) = false := read_write Ieee.double (.number s m e) rfl
        have e2 : nn .f32 c = false := hn
        unfold fin
        rw [e1, e2, he]
        simp only [Bool.not_false, Bool.true_and]
        rw [show (FloatKind.f64.decode (FloatKind.f64.encode (.number s m e))).isInfinity = false from by simpa using hi]
        rfl
  · rw [cvu, ftf_nan (by decide) hn, fin_nan hn]
    rfl

theorem nn_up {a r : Nat} (h : UR a r) : nn .f64 r = nn .f32 a := by
  rw [← nn_cn .f64 r, h.1, ← nn_cn .f32 a]
  generalize cn .f32 a = c
  cases hn : nn .f32 c
  · obtain ⟨u, hu⟩ := up_some hn
    rw [cvu, hu]
    exact ftf_num (by decide) hu
  · rw [cvu, ftf_nan (by decide) hn]; rfl

theorem wf32 {a : Nat} (h : (Lit.float .f32 a).wf = true) : a < 4294967296 := by simpa [Lit.wf] using h
theorem wf64 {a : Nat} (h : (Lit.float .f64 a).wf = true) : a < 18446744073709551616 := by simpa [Lit.wf] using h

theorem single_sw : FloatKind.f32.format.signWeight = 2147483648 := by decide
theorem double_sw : FloatKind.f64.format.signWeight = 9223372036854775808 := by decide
theorem single_inf : FloatKind.f32.format.infRung = 2139095040 := by decide

/-- which bits are a not-a-number -/
theorem nn32 (a : Nat) : nn .f32 a = decide (2139095040 < a % 2147483648) := by
  have := nn_iff .f32 a
  unfold notNan at this
  rw [single_sw, single_inf] at this
  cases h : nn .f32 a
  · have := this.1 h; symm; simp; omega
  · symm; simp
    by_cases hx : a % 2147483648 ≤ 2139095040
    · rw [this.2 hx] at h; cases h
    · omega
theorem nn64 (a : Nat) : nn .f64 a = decide (9218868437227405312 < a % 9223372036854775808) := by
  have := nn_iff .f64 a
  unfold notNan at this
  rw [double_sw, show FloatKind.f64.format.infRung = 9218868437227405312 from by decide] at this
  cases h : nn .f64 a
  · have := this.1 h; symm; simp; omega
  · symm; simp
    by_cases hx : a % 9223372036854775808 ≤ 9218868437227405312
    · rw [this.2 hx] at h; cases h
    · omega

theorem fin64 (a : Nat) : fin .f64 a = decide (a % 9223372036854775808 < 9218868437227405312) := by
  have h2 := read_fin FloatKind.f64.format a
  have h3 := read_inf FloatKind.f64.format a
  rw [double_sw, show FloatKind.f64.format.infRung = 9218868437227405312 from by decide] at h2 h3
  unfold fin
  rw [nn64]
  by_cases h : a % 9223372036854775808 < 9218868437227405312
  · unfold FloatKind.decode
    rw [h2 h]
    simp [Ieee.Datum.isInfinity, h]; omega
  · by_cases h' : a % 9223372036854775808 = 9218868437227405312
    · unfold FloatKind.decode
      rw [h3 h' (by decide)]
      simp [Ieee.Datum.isInfinity, h]
    · simp [h]; omega

theorem i64_and_nat (a b : Nat) (ha : a < 9223372036854775808) (hb : b < 9223372036854775808) : bits .and .i64 (a : Int) (b : Int) = ((a &&& b : Nat) : Int) := by
  have hle : a &&& b ≤ a := Nat.and_le_left
  show IntKind.i64.wrap ((BitVec.ofInt 64 (a : Int) &&& BitVec.ofInt 64 (b : Int)).toNat : Int) = _
  rw [BitVec.toNat_and, ofInt_u64 a (by omega), ofInt_u64 b (by omega)]
  exact IntWalk.i64_in _ (by omega)

/-- the exponent's bits alone -/
theorem exp_mask (a : Nat) (h : a < 4294967296) : bits .and .i64 (a : Int) 2139095040 = ((a % 2147483648 / 8388608 * 8388608 : Nat) : Int) := by
  rw [show (2139095040 : Int) = ((2139095040 : Nat) : Int) from rfl, i64_and_nat a _ (by omega) (by decide)]
  congr 1
  have e : a &&& 2139095040 = a % 2147483648 / 8388608 * 8388608 := by
    apply Nat.eq_of_testBit_eq
    intro i
    rw [Nat.testBit_and, show (8388608 : Nat) = 2 ^ 23 from rfl, Nat.testBit_mul_two_pow, Nat.testBit_div_two_pow, show (2147483648 : Nat) = 2 ^ 31 from rfl, Nat.testBit_mod_two_pow,
      show (2139095040 : Nat) = (2 ^ 8 - 1) * 2 ^ 23 from rfl, Nat.testBit_mul_two_pow, Nat.testBit_two_pow_sub_one]
    by_cases h1 : 23 ≤ i
    · simp [h1]
      by_cases h2 : i < 31
      · simp [h2, show i - 23 < 8 by omega]
      · simp [h2, show ¬ i - 23 < 8 by omega]
    · simp [h1]
  exact e

theorem sign_mask (a : Nat) (h : a < 4294967296) : bits .and .i64 (a : Int) 2147483648 = ((a / 2147483648 * 2147483648 : Nat) : Int) := by
  rw [show (2147483648 : Int) = ((2147483648 : Nat) : Int) from rfl, i64_and_nat a _ (by omega) (by decide)]
  congr 1
  have e : a &&& 2147483648 = a / 2147483648 * 2147483648 := by
    apply Nat.eq_of_testBit_eq
    intro i
    rw [Nat.testBit_and, show (2147483648 : Nat) = 2 ^ 31 from rfl, Nat.testBit_mul_two_pow, Nat.testBit_div_two_pow, Nat.testBit_two_pow]
    by_cases h1 : 31 = i
    · subst h1; simp
    · by_cases h2 : 31 ≤ i
      · simp [h1, h2, show i - 31 + 31 = i by omega]
        exact Nat.testBit_lt_two_pow (Nat.lt_of_lt_of_le (show a < 2 ^ 32 from h) (Nat.pow_le_pow_right (by decide) (by omega)))
      · simp [h1, h2]
  exact e

theorem abs_bits (r : Nat) (h : r < 18446744073709551616) : (bits .andNot .u64 (r : Int) 9223372036854775808).toNat = r % 9223372036854775808 := by
  have := u64_andNot_nat r 9223372036854775808 h (by decide)
  rw [show (9223372036854775808 : Int) = ((9223372036854775808 : Nat) : Int) from rfl, this, Int.toNat_natCast]
  exact Nat.and_two_pow_sub_one_eq_mod r 63

theorem sign_and (r : Nat) (h : r < 18446744073709551616) : r &&& 9223372036854775808 = r / 9223372036854775808 * 9223372036854775808 := by
  apply Nat.eq_of_testBit_eq
  intro i
  rw [Nat.testBit_and, show (9223372036854775808 : Nat) = 2 ^ 63 from rfl, Nat.testBit_mul_two_pow, Nat.testBit_div_two_pow, Nat.testBit_two_pow]
  by_cases h1 : 63 = i
  · subst h1; simp
  · by_cases h2 : 63 ≤ i
    · simp [h1, h2, show i - 63 + 63 = i by omega]
      exact Nat.testBit_lt_two_pow (Nat.lt_of_lt_of_le (show r < 2 ^ 64 from h) (Nat.pow_le_pow_right (by decide) (by omega)))
    · simp [h1, h2]

theorem copysign_bits (r : Nat) (h : r < 18446744073709551616) : (bits BinOp.or IntKind.u64 (bits BinOp.andNot IntKind.u64 0 9223372036854775808) (bits BinOp.and IntKind.u64 (r : Int) 9223372036854775808)).toNat = r / 9223372036854775808 * 9223372036854775808 := by
  have h1 := u64_andNot_nat 0 9223372036854775808 (by decide) (by decide)
  have h2 := u64_and_nat r 9223372036854775808 h (by decide)
  rw [show (9223372036854775808 : Int) = ((9223372036854775808 : Nat) : Int) from rfl, show (0 : Int) = ((0 : Nat) : Int) from rfl, h1, h2, Nat.zero_and, sign_and r h]
  rw [u64_or_nat 0 _ (by decide) (by omega), Nat.zero_or, Int.toNat_natCast]

theorem cmp_gt (x y : Int) : (some (compare x y) == some Ordering.gt) = decide (y < x) := by
  simp only [compare, compareOfLessAndEq]
  by_cases h : x < y
  · rw [if_pos h, decide_eq_false (by omega)]; rfl
  · rw [if_neg h]
    by_cases h' : x = y
    · rw [if_pos h', decide_eq_false (by omega)]; rfl
    · rw [if_neg h', decide_eq_true (by omega)]; rfl
theorem cmp_lt (x y : Int) : (some (compare x y) == some Ordering.lt) = decide (x < y) := by
  simp only [compare, compareOfLessAndEq]
  by_cases h : x < y
  · rw [if_pos h, decide_eq_true h]; rfl
  · rw [if_neg h, decide_eq_false h]
    by_cases h' : x = y
    · rw [if_pos h']; rfl
    · rw [if_neg h']; rfl
theorem cmp_eq (x y : Int) : (some (compare x y) == some Ordering.eq) = decide (x = y) := by
  simp only [compare, compareOfLessAndEq]
  by_cases h : x < y
  · rw [if_pos h, decide_eq_false (by omega)]; rfl
  · rw [if_neg h]
    by_cases h' : x = y
    · rw [if_pos h', decide_eq_true h']; rfl
    · rw [if_neg h', decide_eq_false h']; rfl

theorem key64_pos (x : Nat) (h : x < 9223372036854775808) : key FloatKind.f64.format x = x := by
  unfold key
  rw [double_sw, Nat.div_eq_of_lt h, Nat.mod_eq_of_lt h]
  rfl

/-- greater than the greatest finite number: the infinity alone -/
theorem abs_gt (r : Nat) (h : nn .f64 r = false) : (FloatKind.f64.format.order (r % 9223372036854775808) 9218868437227405311 == some .gt) = !fin .f64 r := by
  rw [nn64] at h
  have h' := of_decide_eq_false h
  rw [ord_key, nn64, nn64, fin64, Nat.mod_mod, decide_eq_false h', decide_eq_false (by decide)]
  simp only [Bool.or_false, Bool.false_eq_true, if_false]
  rw [cmp_gt, key64_pos _ (Nat.mod_lt _ (by decide)), key64_pos _ (by decide)]
  rw [← decide_not]
  exact decide_eq_decide.2 (by omega)
end Go.Proofs.Ytkbdidpodcclfaa

/- The entries of package math that have no body: what each hands back. -/
namespace Go.Proofs.Ytkbdidpodcclfaa
open Go.RowKit

@[go_sem] theorem ext_f64bits (b : Nat) (w : World) : (callFunc 116 #[.float .f64 b]).run Try.prog w = .ok (.value (.int .u64 b)) w := by rw [run_callFunc_extern (e := Extern.MathFloatBits.float64bits) Try.func116 (by kernel_rfl) (by kernel_rfl) (by kernel_rfl) (by kernel_rfl)]; rfl
@[go_sem] theorem ext_f64from (n : Int) (w : World) : (callFunc 115 #[.int .u64 n]).run Try.prog w = .ok (.value (.float .f64 n.toNat)) w := by rw [run_callFunc_extern (e := Extern.MathFloatBits.float64frombits) Try.func115 (by kernel_rfl) (by kernel_rfl) (by kernel_rfl) (by kernel_rfl)]; rfl
end Go.Proofs.Ytkbdidpodcclfaa

/- The laws' own comparison of two 64-bit numbers: it answers true where both are the same up to the bits of a not-a-number. -/
namespace Go.Proofs.Ytkbdidpodcclfaa
open Go.RowKit

/-- true, and the world is as it was but for questions -/
def Yes (w : World) (e : Ending) (w' : World) : Prop := e = .returned (.bool true) ∧ ∃ n, w' = w.drewN n
theorem Yes.same {w : World} : Yes w (.returned (.bool true)) w := ⟨rfl, 0, rfl⟩
theorem Yes.drewN {w : World} {n : Nat} : Yes w (.returned (.bool true)) (w.drewN n) := ⟨rfl, n, rfl⟩

theorem FR_order {op op' : BinOp} {k : FloatKind} {m n m' n' r s : Nat} (h : FR op k m n r) (h' : FR op' k m' n' s) (he : fop op k (cn k m) (cn k n) = fop op' k (cn k m') (cn k n')) (z : Nat) :
    k.format.order r z = k.format.order s z := by
  rw [← order_cn k r z, ← order_cn k s z, h.1, h'.1, he]

theorem sameFloat_nan (g x : Nat) (w : World) (hg : FloatKind.f64.format.order g g = none) (hx : FloatKind.f64.format.order x x = none) :
    Calls Try.prog 37 #[.float .f64 g, .float .f64 x] w (Yes w) := by
  go_enter Try.func37, Try.ntmps37
  go_wp2
  go_ret
  exact Yes.same

theorem sameFloat_eq (g : Nat) (w : World) (hg : FloatKind.f64.format.order g g = some .eq) :
    Calls Try.prog 37 #[.float .f64 g, .float .f64 g] w (Yes w) := by
  go_enter Try.func37, Try.ntmps37
  cases h0 : FloatKind.f64.format.order g 0 == some .eq
  · go_wp2
    go_ret
    exact Yes.same
  · go_wp2_with (refine wpList_farith rfl _ _ _ _ _ rfl rfl _ _ _ rfl rfl ?_; intro _ _ _)
    go_ret
    rename_i r1 j1 h1 r2 j2 h2
    refine ⟨?_, _, rfl⟩
    show Ending.returned (.bool ((FloatKind.f64.format.order r1 0 == some Ordering.gt) == (FloatKind.f64.format.order r2 0 == some Ordering.gt))) = _
    rw [FR_order h1 h2 rfl 0]
    simp

/-- numbers that are the same -/
theorem sameFloat_any (g x : Nat) (w : World) (h : cn .f64 g = cn .f64 x) :
    Calls Try.prog 37 #[.float .f64 g, .float .f64 x] w (Yes w) := by
  cases hg : nn .f64 g
  · have hx : nn .f64 x = false := by rw [← nn_cn, ← h, nn_cn]; exact hg
    rw [cn_of_num hg, cn_of_num hx] at h
    subst h
    exact sameFloat_eq g w (by rw [order_self, hg]; rfl)
  · have hx : nn .f64 x = true := by rw [← nn_cn, ← h, nn_cn]; exact hg
    exact sameFloat_nan g x w (by rw [order_self, hg]; rfl) (by rw [order_self, hx]; rfl)

theorem UR_same {m m' r r' : Nat} (h : UR m r) (h' : UR m' r') (e : cn .f32 m = cn .f32 m') : cn .f64 r = cn .f64 r' := by rw [h.1, h'.1, e]
/-- a bool, and the world is as it was but for questions -/
def Bol (b : Bool) (w : World) (e : Ending) (w' : World) : Prop := e = .returned (.bool b) ∧ ∃ n, w' = w.drewN n

/-- a 32-bit number, and the world is as it was but for questions -/
def Flo (P : Nat → Prop) (w : World) (e : Ending) (w' : World) : Prop := ∃ r n, P r ∧ (Lit.float .f32 r).wf = true ∧ e = .returned (.float .f32 r) ∧ w' = w.drewN n
def Flo2 (r : Nat) (b : Bool) (w : World) (e : Ending) (w' : World) : Prop := e = .returned (.tuple #[.float .f32 r, .bool b]) ∧ w = w'

/-- the end of an exact law on one 32-bit number -/
theorem same_end {a b r s : Nat} (w : World) (h : UR a r) (h' : UR b s) (e : cn .f32 a = cn .f32 b) : Calls Try.prog 37 #[.float .f64 r, .float .f64 s] w (Yes w) :=
  sameFloat_any r s w (UR_same h h' e)
end Go.Proofs.Ytkbdidpodcclfaa

/- Blocks of a call's own: what lies in them, and what is kept behind a call. -/
namespace Go.Proofs.Ytkbdidpodcclfaa
open Go.RowKit

theorem below_al1 (w : World) (a : Obj) : Below w.heap.size w (w.alloc a) := (Below.refl _ _).alloc (Nat.le_refl _) a
theorem below_al2 (w : World) (a b : Obj) : Below w.heap.size w ((w.alloc a).alloc b) := (below_al1 w a).alloc (by simp) b
theorem below_al3 (w : World) (a b c : Obj) : Below w.heap.size w (((w.alloc a).alloc b).alloc c) := (below_al2 w a b).alloc (by simp; omega) c
theorem below_al4 (w : World) (a b c d : Obj) : Below w.heap.size w ((((w.alloc a).alloc b).alloc c).alloc d) := (below_al3 w a b c).alloc (by simp; omega) d

theorem below_unal {a w : World} {o : Obj} (h : Below (a.alloc o).heap.size (a.alloc o) w) : Below a.heap.size a w := below_step (below_al1 a o) h

/-- a block holds these cells, and may be written -/
def Cells (w : World) (p : Nat) (vs : List Value) : Prop := (∀ i v, vs[i]? = some v → w.cell? ⟨p, i, none⟩ = some v) ∧ (∀ i, w.frozen? ⟨p, i, none⟩ = false) ∧ p < w.heap.size
theorem Cells.at {w : World} {p : Nat} {vs : List Value} (h : Cells w p vs) (i : Nat) {v : Value} (hv : vs[i]? = some v) : w.cell? ⟨p, i, none⟩ = some v := h.1 i v hv
theorem Cells.fz {w : World} {p : Nat} {vs : List Value} (h : Cells w p vs) (i : Nat) : w.frozen? ⟨p, i, none⟩ = false := h.2.1 i
theorem Cells.lt {w : World} {p : Nat} {vs : List Value} (h : Cells w p vs) : p < w.heap.size := h.2.2
theorem Cells.kept {w w' : World} {p : Nat} {vs : List Value} (h : Cells w p vs) (hb : Below w.heap.size w w') : Cells w' p vs :=
  ⟨fun i v hv => (hb.cell (p := ⟨p, i, none⟩) h.lt).trans (h.1 i v hv), fun i => (hb.frozen (p := ⟨p, i, none⟩) h.lt).trans (h.2.1 i), Nat.lt_of_lt_of_le h.lt hb.size⟩
theorem Cells.made (w : World) (vs : List Value) (t : TypeId) : Cells (w.alloc (.cells vs.toArray t)) w.heap.size vs :=
  ⟨fun i v hv => by simpa using hv, fun i => by simp, by simp⟩
theorem Cells.drewN {w : World} {p n : Nat} {vs : List Value} (h : Cells w p vs) : Cells (w.drewN n) p vs := h
theorem Cells.al {w : World} {p : Nat} {vs : List Value} (h : Cells w p vs) (o : Obj) : Cells (w.alloc o) p vs := h.kept (below_al1 w o)

theorem Cells.set {w : World} {p : Nat} {vs : List Value} (h : Cells w p vs) (i : Nat) (hi : i < vs.length) (v : Value) : Cells (w.setCell ⟨p, i, none⟩ v) p (vs.set i v) := by
  refine ⟨fun j u hj => ?_, fun j => by rw [World.frozen?_setCell]; exact h.2.1 j, by simpa using h.2.2⟩
  have hi' : vs[i]? = some vs[i] := List.getElem?_eq_getElem hi
  by_cases e : i = j
  · subst e
    rw [World.cell?_setCell_same _ _ _ (h.1 i _ hi')]
    simp [hi] at hj
    simp [hj]
  · rw [World.cell?_setCell_other _ _ _ _ (by intro e'; cases e'; exact e rfl)]
    rw [List.getElem?_set_ne e] at hj
    exact h.1 j u hj
theorem Cells.far {w : World} {p q : Nat} {vs : List Value} (h : Cells w p vs) (hq : q ≠ p) (i : Nat) (v : Value) : Cells (w.setCell ⟨q, i, none⟩ v) p vs :=
  ⟨fun j u hj => by rw [World.cell?_setCell_other _ _ _ _ (by intro e; cases e; exact hq rfl)]; exact h.1 j u hj, fun j => by rw [World.frozen?_setCell]; exact h.2.1 j, by simpa using h.2.2⟩

end Go.Proofs.Ytkbdidpodcclfaa

/- A slice of 32-bit numbers, as a list of their bits: what it is, and such an argument opened. -/
namespace Go.Proofs.Ytkbdidpodcclfaa
open Go.RowKit

/-- the value v reads as the list zs of numbers: empty, or a row of cells -/
def FRow (w : World) (v : Value) (zs : List Nat) : Prop :=
  ((∃ a c, v = .slice a 0 c) ∧ zs = []) ∨
  ∃ b off cap, v = .slice (some ⟨b, off, none⟩) zs.length cap ∧ zs.length ≤ maxLen ∧ ∀ i, i < zs.length → w.cell? ⟨b, off + i, none⟩ = some (.float .f32 (zs.getD i 0))

theorem cell_lt {w : World} {b o : Nat} {v : Value} (h : w.cell? ⟨b, o, none⟩ = some v) : b < w.heap.size := by
  unfold World.cell? at h
  by_cases hb : b < w.heap.size
  · exact hb
  · rw [Array.getElem?_eq_none (by simpa using hb)] at h
    simp at h

theorem FRow.below {w w' : World} {v : Value} {zs : List Nat} (h : FRow w v zs) (hb : Below w.heap.size w w') : FRow w' v zs := by
  rcases h with h | ⟨b, off, cap, e, hm, hc⟩
  · exact .inl h
  · refine .inr ⟨b, off, cap, e, hm, fun i hi => ?_⟩
    have := hc i hi
    rw [hb.cell (p := ⟨b, off + i, none⟩) (cell_lt this)]
    exact this

theorem FRow.drewN {w : World} {v : Value} {zs : List Nat} {n : Nat} (h : FRow w v zs) : FRow (w.drewN n) v zs := h


/-- how long a slice is -/
theorem FRow.shape {w : World} {v : Value} {zs : List Nat} (h : FRow w v zs) : ∃ a cap, v = .slice a zs.length cap := by
  rcases h with ⟨h, rfl⟩ | ⟨b, off, cap, rfl, _⟩
  · exact h
  · exact ⟨_, _, rfl⟩

/-- an argument that is a slice of 32-bit numbers -/
theorem open_f32s {H : Type} {enc : TypeId × Value → H} {P : Program} {w : World} {base : Nat} {spare : Nat → Bool} {held : Bool} {t e : TypeId} {a : Option Addr} {len cap : Nat} {d : DataW H} {ps : List MemPlace}
    (ht : P.underlying t = some (.slice e)) (he : P.underlying e = some (.float .f32)) (hc : P.cellsOf e = 1) (h : DataW.Trod enc P w base spare held t (.slice a len cap) d ps) :
    ∃ zs, FRow w (.slice a len cap) zs ∧ ∀ i, i < zs.length → (Lit.float .f32 (zs.getD i 0)).wf = true := by
  obtain ⟨fuel, hf⟩ := h
  rcases Deep.open_slice1 ht hc hf with ⟨hcs, _⟩ | ⟨x, l, c, m, n, V, D, Pl, hcs, _, hl, hm, hmm, _, hV⟩
  · simp [Value.cells] at hcs
    obtain ⟨rfl, rfl, rfl⟩ := hcs
    exact ⟨[], .inl ⟨⟨_, _, rfl⟩, rfl⟩, fun i hi => by simp at hi⟩
  · simp [Value.cells] at hcs
    obtain ⟨rfl, rfl, rfl⟩ := hcs
    have hlm : len ≤ m := by rw [hmm]; split <;> omega
    have hb : ∀ i, i < len → ∃ b, V i = .float .f32 b ∧ (Lit.float .f32 b).wf = true := by
      intro i hi
      have h2 := (hV i (by omega)).2
      cases n with
      | zero => simp [DataW.trod] at h2
      | succ n =>
        cases hv : V i <;> simp [DataW.trod, he, hv] at h2
        rename_i k b
        obtain ⟨⟨rfl, hw⟩, _⟩ := h2
        exact ⟨b, rfl, hw⟩
    obtain ⟨B, hB⟩ := Deep.choose_lt hb
    refine ⟨(List.range len).map B, ?_, fun i hi => ?_⟩
    · by_cases h0 : len = 0
      · subst h0; exact .inl ⟨⟨_, _, rfl⟩, rfl⟩
      · obtain ⟨xb, xo, xs⟩ := x
        have hs : xs = none := by simpa [Addr.add] using World.cell?_spot (hV 0 (by omega)).1
        subst hs
        refine .inr ⟨xb, xo, cap, by simp, by simp; omega, fun i hi => ?_⟩
        have hi' : i < len := by simpa using hi
        have := (hV i (by omega)).1
        rw [(hB i hi').1] at this
        have ea : (⟨xb, xo, none⟩ : Addr).add i = ⟨xb, xo + i, none⟩ := by
          by_cases h : i = 0
          · subst h; simp [Addr.add]
          · simp [Addr.add, h]
        rw [ea] at this
        simpa [hi', List.getD_eq_getElem?_getD] using this
    · have hi' : i < len := by simpa using hi
      simpa [hi', List.getD_eq_getElem?_getD] using (hB i hi').2

/-- a slice that is a whole block of its own -/
abbrev sl (p : Nat) (zs : List Nat) : Value := .slice (some ⟨p, 0, none⟩) zs.length zs.length
def fl (zs : List Nat) : List Value := zs.map (.float .f32)
theorem FRow.of_cells {w : World} {p : Nat} {zs : List Nat} (h : Cells w p (fl zs)) (hm : zs.length ≤ maxLen) : FRow w (sl p zs) zs :=
  .inr ⟨p, 0, _, rfl, hm, fun i hi => by rw [Nat.zero_add]; exact h.1 i _ (by simp [fl, hi, List.getD_eq_getElem?_getD])⟩
theorem ret_b {x b : Bool} (h : x = b) : Ending.returned (.bool b) = Ending.returned (.bool x) := by rw [h]

theorem FRow.cells {w : World} {v : Value} {zs : List Nat} (h : FRow w v zs) (hn : 1 ≤ zs.length) : ∃ b off cap, v = .slice (some ⟨b, off, none⟩) zs.length cap ∧ ∀ i, i < zs.length → w.cell? ⟨b, off + i, none⟩ = some (.float .f32 (zs.getD i 0)) := by
  rcases h with ⟨_, rfl⟩ | ⟨b, off, cap, e, hm, hc⟩
  · simp at hn
  · exact ⟨b, off, cap, e, hc⟩

theorem FRow.len {w : World} {v : Value} {zs : List Nat} (h : FRow w v zs) : zs.length ≤ 9223372036854775807 := by
  rcases h with ⟨_, rfl⟩ | ⟨_, _, _, _, hm, _⟩
  · simp
  · exact hm

end Go.Proofs.Ytkbdidpodcclfaa

/- A region that draws its order, whose operations leave the world alone but for questions, AND MAY HAND BACK ANY OF SEVERAL VALUES (a not-a-number's bits): one walk in the order of the text, for every such value, serves every order. After the guide's theorem for one value. -/
namespace Go.Proofs.Ytkbdidpodcclfaa

section
variable {P : Program} {ops : Array Oper} {md : Region.Mode} {C : World → Prop} {Sg : FuncId → Array Value → Value → Prop}

def LoGood (P : Program) (C : World → Prop) (Sg : FuncId → Array Value → Value → Prop) : Result Next → Prop
  | .ok (.value _) w' => C w'
  | .ok .skip w' => C w'
  | .ok (.enter f args) w' => C w' ∧ Calls P f args w' (fun e w'' => ∃ v, e = .returned v ∧ Sg f args v ∧ C w'')
  | _ => False

def LoVal (Sg : FuncId → Array Value → Value → Prop) (v : Value) : Result Next → Prop
  | .ok (.value u) _ => v = u
  | .ok .skip _ => v = undef
  | .ok (.enter f args) _ => Sg f args v
  | _ => False

def good (P : Program) (C : World → Prop) (Sg : FuncId → Array Value → Value → Prop) (o : Oper) (a : Act) : Prop := ∀ w, C w → LoGood P C Sg ((execOp a.eval o).run P w)
def val (P : Program) (C : World → Prop) (Sg : FuncId → Array Value → Value → Prop) (o : Oper) (a : Act) (v : Value) : Prop := ∃ w, C w ∧ LoVal Sg v ((execOp a.eval o).run P w)

def loose (P : Program) (C : World → Prop) (Sg : FuncId → Array Value → Value → Prop) (o : Oper) (a : Act) (next : Act → Prop) : Prop := good P C Sg o a ∧ ∀ v, val P C Sg o a v → next (a.put o.dst v)

def wpLoose (P : Program) (ops : Array Oper) (C : World → Prop) (Sg : FuncId → Array Value → Value → Prop) (Q : Act → Prop) : List Oper → Act → Prop
  | [], a => Q a
  | o :: rest, a => if Region.wanted o (yielded ops a.tmps) then loose P C Sg o a (wpLoose P ops C Sg Q rest) else wpLoose P ops C Sg Q rest (a.put o.dst undef)

/-- Is it wanted, and then good; what it may leave. -/
def LGood (P : Program) (ops : Array Oper) (C : World → Prop) (Sg : FuncId → Array Value → Value → Prop) (o : Oper) (a : Act) : Prop := Region.wanted o (yielded ops a.tmps) = true → good P C Sg o a
def LVal (P : Program) (ops : Array Oper) (C : World → Prop) (Sg : FuncId → Array Value → Value → Prop) (o : Oper) (a : Act) (v : Value) : Prop :=
  (Region.wanted o (yielded ops a.tmps) = true ∧ val P C Sg o a v) ∨ (Region.wanted o (yielded ops a.tmps) = false ∧ v = undef)

def lOp (P : Program) (ops : Array Oper) (C : World → Prop) (Sg : FuncId → Array Value → Value → Prop) (i : Nat) (K : Act → Prop) (a : Act) : Prop :=
  match ops[i]? with
  | none => K a
  | some o => LGood P ops C Sg o a ∧ ∀ v, LVal P ops C Sg o a v → K (a.put o.dst v)

def wpAnyL (P : Program) (md : Region.Mode) (ops : Array Oper) (C : World → Prop) (Sg : FuncId → Array Value → Value → Prop) (Q : Act → Prop) : Nat → Array Bool → Act → Prop
  | 0, listed, a => Region.ready md ops listed = [] ∧ Q a
  | fuel + 1, listed, a =>
    (Region.ready md ops listed = [] → Q a) ∧
    ∀ i ∈ Region.ready md ops listed, lOp P ops C Sg i (wpAnyL P md ops C Sg Q fuel (listed.setIfInBounds i true)) a

theorem wp_of_loose {o : Oper} {a : Act} {K : Act → Prop} {K' : Act → World → Prop} {Q' : Exit → Act → World → Prop} {w : World} (hw : C w) (h : ∀ a w', C w' → K a → K' a w')
    (hg : good P C Sg o a) (hv : ∀ v, val P C Sg o a v → K (a.put o.dst v)) : o.wp P a w K' Q' := by
  have h3 := hg w hw
  have h4 : ∀ v, LoVal Sg v ((execOp a.eval o).run P w) → K (a.put o.dst v) := fun v hv' => hv v ⟨w, hw, hv'⟩
  unfold Oper.wp
  generalize (execOp a.eval o).run P w = r at *
  cases r with
  | ok n w' =>
    cases n <;> simp only [LoGood] at h3 <;> simp only [Oper.upon]
    case value u => exact h _ _ h3 (h4 u rfl)
    case skip => exact h _ _ h3 (h4 undef rfl)
    case enter f args =>
      exact h3.2.mono fun e w'' ⟨v, he, hs, hc⟩ => by subst he; exact h _ _ hc (h4 v hs)
  | halt x w' => simp only [LoGood] at h3

theorem wpOp_of_lOp {i : Nat} {a : Act} {K : Act → Prop} {K' : Act → World → Prop} {Q' : Exit → Act → World → Prop} {w : World} (hC : C w) (h : ∀ a w', C w' → K a → K' a w') (hh : lOp P ops C Sg i K a) : wpOp P ops Q' i K' a w := by
  unfold lOp at hh
  unfold wpOp
  split
  · rename_i ho; simp only [ho] at hh; exact h _ _ hC hh
  · rename_i o ho
    simp only [ho] at hh
    split
    · rename_i hw; exact .inl (wp_of_loose hC h (hh.1 hw) fun v hv => hh.2 v (.inl ⟨hw, hv⟩))
    · rename_i hw; exact h _ _ hC (hh.2 undef (.inr ⟨by simpa using hw, rfl⟩))

theorem wpAny_of_loose {Q : Act → Prop} {Q' : Exit → Act → World → Prop} (hQ : ∀ a w, C w → Q a → Q' .normal a w) : ∀ (fuel : Nat) (listed : Array Bool) (a : Act) (w : World), C w →
    wpAnyL P md ops C Sg Q fuel listed a → wpAny P md ops Q' fuel listed a w
  | 0, _, _, _, hw, h => ⟨h.1, hQ _ _ hw h.2⟩
  | fuel + 1, _, _, _, hw, h => ⟨fun h0 => hQ _ _ hw (h.1 h0), fun i hi => wpOp_of_lOp hw (fun a' w' hw' => wpAny_of_loose hQ fuel _ a' w' hw') (h.2 i hi)⟩

/-- there is a value that it may leave -/
theorem some_val {o : Oper} {a : Act} {w : World} (hw : C w) (hg : LGood P ops C Sg o a) : ∃ v, LVal P ops C Sg o a v := by
  by_cases h : Region.wanted o (yielded ops a.tmps) = true
  · have h3 := hg h w hw
    have : ∃ v, LoVal Sg v ((execOp a.eval o).run P w) := by
      generalize (execOp a.eval o).run P w = r at *
      cases r with
      | ok n w' =>
        cases n <;> simp only [LoGood] at h3
        case value u => exact ⟨u, rfl⟩
        case skip => exact ⟨undef, rfl⟩
        case enter f args =>
          obtain ⟨e, w'', fr, ⟨v, _, hs, _⟩, _⟩ := h3.2 []
          exact ⟨v, hs⟩
      | halt x w' => simp only [LoGood] at h3
    obtain ⟨v, hv⟩ := this
    exact ⟨v, .inl ⟨h, w, hw, hv⟩⟩
  · exact ⟨undef, .inr ⟨by simpa using h, rfl⟩⟩

theorem LGood.of_same {o : Oper} {a a' : Act} (h : LGood P ops C Sg o a) (he : execOp a'.eval o = execOp a.eval o)
    (hw : Region.wanted o (yielded ops a'.tmps) = Region.wanted o (yielded ops a.tmps)) : LGood P ops C Sg o a' := by
  unfold LGood good at *
  rw [he, hw]
  exact h

theorem LVal.of_same {o : Oper} {a a' : Act} {v : Value} (h : LVal P ops C Sg o a v) (he : execOp a'.eval o = execOp a.eval o)
    (hw : Region.wanted o (yielded ops a'.tmps) = Region.wanted o (yielded ops a.tmps)) : LVal P ops C Sg o a' v := by
  unfold LVal val at *
  rw [he, hw]
  exact h

theorem wpAnyL_first {Q : Act → Prop} {i : Nat} {oi : Oper} {w0 : World} (hC : C w0) (hi : ops[i]? = some oi) (hsel : ∀ (j : Nat) (o : Oper) cs b, ops[j]? = some o → o.op ≠ .select cs b) :
    ∀ (fuel : Nat) (listed : Array Bool) (a : Act),
      (∀ j oj, ops[j]? = some oj → j ≠ i → listed.getD j true = false → (∀ e ∈ oj.after, Region.binds md e = true → e.on ≠ i) → oi.apart ops oj = true) →
      i ∈ Region.ready md ops listed → LGood P ops C Sg oi a →
      (∀ v, LVal P ops C Sg oi a v → wpAnyL P md ops C Sg Q fuel (listed.setIfInBounds i true) (a.put oi.dst v)) → wpAnyL P md ops C Sg Q (fuel + 1) listed a := by
  intro fuel
  induction fuel with
  | zero =>
    intro listed a _ hr hy H
    refine ⟨fun h => (by rw [h] at hr; cases hr), fun j hj => ?_⟩
    by_cases hji : j = i
    · subst hji
      unfold lOp; simp only [hi]
      exact ⟨hy, H⟩
    · obtain ⟨v, hv⟩ := some_val hC hy
      have := ready_mono hj hji
      rw [(H v hv).1] at this
      cases this
  | succ fuel ih =>
    intro listed a hfree hr hy H
    refine ⟨fun h => (by rw [h] at hr; cases hr), fun j hj => ?_⟩
    by_cases hji : j = i
    · subst hji
      unfold lOp; simp only [hi]
      exact ⟨hy, H⟩
    · obtain ⟨hjun, oj, hoj, hall⟩ := mem_ready.1 hj
      have hnot : ∀ e ∈ oj.after, Region.binds md e = true → e.on ≠ i := fun e he hb heq => by
        have h1 := hall e he hb
        have h0 := (mem_ready.1 hr).1
        rw [heq] at h1
        rcases Nat.lt_or_ge i listed.size with h' | h'
        · simp [h'] at h0 h1; rw [h0] at h1; cases h1
        · simp [Array.getElem?_eq_none h'] at h1
      have hap := hfree j oj hoj hji hjun hnot
      obtain ⟨q1, q2, q3⟩ := Oper.apart_spec hap
      have keepG : ∀ u, LGood P ops C Sg oi (a.put oj.dst u) := fun u =>
        hy.of_same (execOp_put oi (fun cs b => hsel i oi cs b hi) a oj.dst u q3) (wanted_put oi a oj.dst u q3)
      have hfree' : ∀ k ok, ops[k]? = some ok → k ≠ i → (listed.setIfInBounds j true).getD k true = false →
          (∀ e ∈ ok.after, Region.binds md e = true → e.on ≠ i) → oi.apart ops ok = true := fun k ok hk hki hun hno => by
        refine hfree k ok hk hki ?_ hno
        by_cases hjk : j = k
        · subst hjk; exact hjun
        · rw [getD_set_ne true hjk] at hun; exact hun
      have ev : ∀ v, execOp (a.put oi.dst v).eval oj = execOp a.eval oj := fun v => execOp_put oj (fun cs b => hsel j oj cs b hoj) a oi.dst v q1
      have wv : ∀ v, Region.wanted oj (yielded ops (a.put oi.dst v).tmps) = Region.wanted oj (yielded ops a.tmps) := fun v => wanted_put oj a oi.dst v q1
      have step : ∀ v, LVal P ops C Sg oi a v → LGood P ops C Sg oj a ∧ ∀ u, LVal P ops C Sg oj a u → wpAnyL P md ops C Sg Q fuel ((listed.setIfInBounds i true).setIfInBounds j true) ((a.put oi.dst v).put oj.dst u) := fun v hv => by
        have h1 := (H v hv).2 j (ready_mono hj hji)
        unfold lOp at h1
        simp only [hoj] at h1
        exact ⟨h1.1.of_same (ev v).symm (wv v).symm, fun u hu => h1.2 u (hu.of_same (ev v) (wv v))⟩
      obtain ⟨v0, hv0⟩ := some_val hC hy
      unfold lOp
      simp only [hoj]
      refine ⟨(step v0 hv0).1, fun u hu => ?_⟩
      refine ih (listed.setIfInBounds j true) (a.put oj.dst u) hfree' (ready_mono hr (Ne.symm hji)) (keepG u) fun v hv => ?_
      have hv' : LVal P ops C Sg oi a v := hv.of_same (execOp_put oi (fun cs b => hsel i oi cs b hi) a oj.dst u q3).symm (wanted_put oi a oj.dst u q3).symm
      have := (step v hv').2 u hu
      rw [Array.setIfInBounds_comm _ _ hji, ← Act.put_comm a v u q2]
      exact this

theorem wpAnyL_lex {Q : Act → Prop} {w0 : World} (hC : C w0) (hs : Region.noSelect ops = true) : ∀ (l : List Oper) (k : Nat) (listed : Array Bool) (a : Act), (∀ j, l[j]? = ops[k + j]?) →
    Region.lexFrom md ops l.length k listed = true → wpLoose P ops C Sg Q l a → wpAnyL P md ops C Sg Q l.length listed a
  | [], _, _, _, _, hB, h => ⟨by simpa [Region.lexFrom] using hB, h⟩
  | o :: l, k, listed, a, hl, hB, h => by
    have h0 : ops[k]? = some o := by simpa using (hl 0).symm
    simp only [List.length_cons, Region.lexFrom, Bool.and_eq_true] at hB
    obtain ⟨⟨hr, hf⟩, hB'⟩ := hB
    have hst : LGood P ops C Sg o a ∧ ∀ v, LVal P ops C Sg o a v → wpLoose P ops C Sg Q l (a.put o.dst v) := by
      unfold wpLoose at h
      by_cases hw : Region.wanted o (yielded ops a.tmps) = true
      · rw [if_pos hw] at h
        refine ⟨fun _ => h.1, fun v hv => ?_⟩
        rcases hv with ⟨_, hv⟩ | ⟨hn, _⟩
        · exact h.2 v hv
        · rw [hw] at hn; cases hn
      · rw [if_neg hw] at h
        refine ⟨fun hw' => absurd hw' hw, fun v hv => ?_⟩
        rcases hv with ⟨hn, _⟩ | ⟨_, rfl⟩
        · exact absurd hn hw
        · exact h
    exact wpAnyL_first hC h0 (Region.noSelect_spec hs) l.length listed a (Region.free_spec h0 hf) (by simpa using hr) hst.1
      fun v hv => wpAnyL_lex hC hs l (k + 1) _ _ (fun j => by have := hl (j + 1); simpa [Nat.add_assoc, Nat.add_comm 1 j] using this) hB' (hst.2 v hv)

theorem wp_region_loose {id : Nat} {Q : Exit → Act → World → Prop} {a : Act} {w : World} {l : List Oper} (Sg : FuncId → Array Value → Value → Prop) (hm : P.follows .mixedOrders = true) (hB : Region.lexB .any l.toArray = true)
    (h : wpLoose P l.toArray (fun w' => ∃ n, w' = w.drewN n) Sg (fun a' => ∀ w', (∃ n, w' = w.drewN n) → Q .normal a' w') l a) : (Code.region id l.toArray true).wp P Q a w := by
  simp only [Region.lexB, Bool.and_eq_true] at hB
  refine wp_region_any hm (wpAny_of_loose (C := fun w' => ∃ n, w' = w.drewN n) (Sg := Sg) (Q := fun a' => ∀ w', (∃ n, w' = w.drewN n) → Q .normal a' w') (fun _ w' hw' h => h w' hw') _ _ _ _ ⟨1, rfl⟩ ?_)
  have := wpAnyL_lex (C := fun w' => ∃ n, w' = w.drewN n) (Sg := Sg) (md := .any) (w0 := w.drewN 0) ⟨0, rfl⟩ hB.1 l 0 (Array.replicate l.length false) a (by simp) (by simpa using hB.2) h
  simpa using this

/-! ### The steps -/
variable {Q : Act → Prop} {a : Act} {o : Oper} {rest : List Oper} {w : World}
theorem wpLoose_nil (h : Q a) : wpLoose P ops C Sg Q [] a := h

theorem good_of_quiet {v : Value} (h : ∀ w, C w → o.quietAt P a C w v) (hs : ∀ w f args w', C w → (execOp a.eval o).run P w ≠ .ok (.enter f args) w') :
    good P C Sg o a ∧ ∀ u, val P C Sg o a u → u = v := by
  constructor
  · intro w hw
    have h1 := h w hw
    have h2 := hs w
    unfold Oper.quietAt at h1
    generalize (execOp a.eval o).run P w = r at *
    cases r with
    | ok n w' =>
      cases n <;> simp only [Oper.quietUpon] at h1 <;> simp only [LoGood]
      case value u => rw [h1.1]; exact hw
      case skip => rw [h1.1]; exact hw
      case enter f args => exact absurd rfl (h2 f args w' hw)
    | halt x w' => simp only [Oper.quietUpon] at h1
  · rintro u ⟨w, hw, hu⟩
    have h1 := h w hw
    have h2 := hs w
    unfold Oper.quietAt at h1
    generalize (execOp a.eval o).run P w = r at *
    cases r with
    | ok n w' =>
      cases n <;> simp only [Oper.quietUpon] at h1 <;> simp only [LoVal] at hu
      case value x => rw [hu, h1.2]
      case skip => rw [hu, h1.2]
      case enter f args => exact absurd rfl (h2 f args w' hw)
    | halt x w' => simp only [Oper.quietUpon] at h1

/-- is it an operation that enters no function -/
def plainOp : Op → Bool
  | .move _ | .assign _ | .pick .. | .load .. | .binOp .. | .unOp .. | .convert .. | .indexAddr .. | .fieldAddr .. | .field .. | .index .. => true
  | .call { callee := .builtin .len, .. } => true
  | _ => false

theorem bind_noEnter {α : Type} {s : Sem α} {g : α → Value} {f : FuncId} {args : Array Value} {w w' : World} : (do let x ← s; pure (Next.value (g x)) : Sem Next).run P w ≠ .ok (.enter f args) w' := by
  rw [Sem.run_bind]
  cases s.run P w with
  | ok x w1 => intro h; cases h
  | halt h w1 => intro h; cases h

theorem plain_noEnter {o : Oper} {a : Act} (h : plainOp o.op = true) (w : World) (f : FuncId) (args : Array Value) (w' : World) : (execOp a.eval o).run P w ≠ .ok (.enter f args) w' := by
  unfold execOp
  cases e : o.op <;> simp only [e, plainOp] at h <;> first | (cases h; done) | skip
  all_goals simp only
  case move => intro h; cases h
  case assign => intro h; cases h
  case call c =>
    obtain ⟨callee, cargs, ct⟩ := c
    cases callee with
    | builtin b =>
      cases b <;> first | (cases h; done) | skip
      simp only [resolve, Sem.run_bind, Sem.run_pure, Result.andThen_ok, invoke, builtin]
      cases Sem.run P (Builtin.len_ ct o.type (Array.map a.eval cargs)) w with
      | ok x w1 => intro h; cases h
      | halt h w1 => intro h; cases h
    | _ => cases h
  case pick => exact bind_noEnter
  all_goals exact bind_noEnter (g := id)

theorem wpLoose_plain (hp : plainOp o.op = true)
    (h : ∀ K : Act → Prop, (∀ a, wpLoose P ops C Sg Q rest a → K a) → if Region.wanted o (yielded ops a.tmps) then o.quiet P a C K else K (a.put o.dst undef)) : wpLoose P ops C Sg Q (o :: rest) a := by
  have h' := h (wpLoose P ops C Sg Q rest) (fun _ h => h)
  unfold wpLoose
  split
  · rename_i hw
    rw [if_pos hw] at h'
    obtain ⟨v, h1, h2⟩ := h'
    obtain ⟨g1, g2⟩ := good_of_quiet (Sg := Sg) h1 (fun w f args w' _ => plain_noEnter hp w f args w')
    exact ⟨g1, fun u hu => by rw [g2 u hu]; exact h2⟩
  · rename_i hw
    rw [if_neg hw] at h'
    exact h'

/-- an operation that hands back any of several values -/
theorem wpLoose_some (hgd : o.guard = none) (V : Value → Prop) (hv : ∀ w, C w → ∃ v w', V v ∧ C w' ∧ (execOp a.eval o).run P w = .ok (.value v) w') (h : ∀ v, V v → wpLoose P ops C Sg Q rest (a.put o.dst v)) : wpLoose P ops C Sg Q (o :: rest) a := by
  have hw : Region.wanted o (yielded ops a.tmps) = true := by simp [Region.wanted, hgd]
  unfold wpLoose
  rw [if_pos hw]
  refine ⟨fun w hw => ?_, ?_⟩
  · obtain ⟨v, w', _, hc, e⟩ := hv w hw
    rw [e]; exact hc
  · rintro u ⟨w, hw, hu⟩
    obtain ⟨v, w', hV, hc, e⟩ := hv w hw
    rw [e] at hu
    change u = v at hu
    subst hu
    exact h _ hV

abbrev Drawn (w : World) : World → Prop := fun w' => ∃ n, w' = w.drewN n

theorem drawn_again {w w' : World} (h : Drawn w w') (j : Nat) : Drawn w (w'.drewN j) := by
  obtain ⟨n, rfl⟩ := h
  exact ⟨n + j, by rw [World.drewN_drewN]⟩

theorem wpLoose_up (hgd : o.guard = none) {S D : TypeId} (hs : P.underlying S = some (.float .f32)) (hd : P.underlying D = some (.float .f64)) (x : Operand) (ho : o.op = .convert S D x) (m : Nat)
    (hx : a.eval x = .float .f32 m) (h : ∀ r, UR m r → wpLoose P ops (Drawn w) Sg Q rest (a.put o.dst (.float .f64 r))) : wpLoose P ops (Drawn w) Sg Q (o :: rest) a := by
  refine wpLoose_some hgd (fun v => ∃ r, UR m r ∧ v = .float .f64 r) (fun w1 hw1 => ?_) (fun v ⟨r, hr, e⟩ => by rw [e]; exact h r hr)
  obtain ⟨r, j, hr, hw⟩ := run_up hs hd m w1
  refine ⟨_, _, ⟨r, hr, rfl⟩, drawn_again hw1 j, ?_⟩
  unfold execOp
  simp only [ho, hx, Sem.run_bind, Sem.run_pure, Result.andThen_ok, hw]

theorem wpLoose_down (hgd : o.guard = none) {S D : TypeId} (hs : P.underlying S = some (.float .f64)) (hd : P.underlying D = some (.float .f32)) (x : Operand) (ho : o.op = .convert S D x) (m : Nat)
    (hx : a.eval x = .float .f64 m) (h : ∀ r, DR m r → wpLoose P ops (Drawn w) Sg Q rest (a.put o.dst (.float .f32 r))) : wpLoose P ops (Drawn w) Sg Q (o :: rest) a := by
  refine wpLoose_some hgd (fun v => ∃ r, DR m r ∧ v = .float .f32 r) (fun w1 hw1 => ?_) (fun v ⟨r, hr, e⟩ => by rw [e]; exact h r hr)
  obtain ⟨r, j, hr, hw⟩ := run_down hs hd m w1
  refine ⟨_, _, ⟨r, hr, rfl⟩, drawn_again hw1 j, ?_⟩
  unfold execOp
  simp only [ho, hx, Sem.run_bind, Sem.run_pure, Result.andThen_ok, hw]

theorem wpLoose_farith (hgd : o.guard = none) (op : BinOp) (t : TypeId) (x y : Operand) (t' : TypeId) (ho : o.op = .binOp op t x y t') (hop : isArith op = true) (k : FloatKind) (m n : Nat)
    (hx : a.eval x = .float k m) (hy : a.eval y = .float k n) (h : ∀ r, FR op k m n r → wpLoose P ops (Drawn w) Sg Q rest (a.put o.dst (.float k r))) : wpLoose P ops (Drawn w) Sg Q (o :: rest) a := by
  refine wpLoose_some hgd (fun v => ∃ r, FR op k m n r ∧ v = .float k r) (fun w1 hw1 => ?_) (fun v ⟨r, hr, e⟩ => by rw [e]; exact h r hr)
  obtain ⟨r, j, hr, hw⟩ := run_farith (P := P) op hop t k m n w1
  refine ⟨_, _, ⟨r, hr, rfl⟩, drawn_again hw1 j, ?_⟩
  have hg : (eqGuard op t x y (.float k m) (.float k n)) = pure () := by
    cases op <;> simp [isArith] at hop <;> rfl
  unfold execOp
  simp only [ho, hx, hy, hg, Sem.run_bind, Sem.run_pure, Result.andThen_ok, hw]

/-- a call of a function, by its contract -/
theorem wpLoose_call (hgd : o.guard = none) (f : FuncId) (args : Array Value) (hr : ∀ w1, (execOp a.eval o).run P w1 = .ok (.enter f args) w1)
    (hc : ∀ w1, Drawn w w1 → Calls P f args w1 fun e w2 => ∃ v, e = .returned v ∧ Sg f args v ∧ Drawn w1 w2) (h : ∀ v, Sg f args v → wpLoose P ops (Drawn w) Sg Q rest (a.put o.dst v)) : wpLoose P ops (Drawn w) Sg Q (o :: rest) a := by
  have hw : Region.wanted o (yielded ops a.tmps) = true := by simp [Region.wanted, hgd]
  unfold wpLoose
  rw [if_pos hw]
  refine ⟨fun w1 hw1 => ?_, ?_⟩
  · rw [hr w1]
    refine ⟨hw1, (hc w1 hw1).mono fun e w2 ⟨v, he, hs, m, hm⟩ => ⟨v, he, hs, ?_⟩⟩
    rw [hm]; exact drawn_again hw1 m
  · rintro u ⟨w1, hw1, hu⟩
    rw [hr w1] at hu
    exact h _ hu
end
end Go.Proofs.Ytkbdidpodcclfaa

/- A slice of 32-bit numbers, as a list of their bits. -/
namespace Go.Proofs.Ytkbdidpodcclfaa
open Go.RowKit

/-- a new row: the call hands back a slice that reads as zs, and nothing that was there has turned -/
def NewRow (zs : List Nat) (w : World) (e : Ending) (w' : World) : Prop := ∃ v, e = .returned v ∧ FRow w' v zs ∧ Below w.heap.size w w'

theorem Try.rowOf32 : (Try.prog.info? 22).map (fun i => (i.zero, i.size, i.bytes)) = some (some (.float .f32 0), 1, 4) := by kernel_rfl

def part (zs : List Nat) (k i : Nat) : Value := .float .f32 (if i < k then zs.getD i 0 else 0)

theorem row_of_part {wr : World} {b : Nat} {zs : List Nat} (h : wr.rowIs b 22 zs.length (part zs zs.length)) (hm : zs.length ≤ maxLen) : FRow wr (.slice (some ⟨b, 0, none⟩) zs.length zs.length) zs := by
  refine .inr ⟨b, 0, _, rfl, hm, fun i hi => ?_⟩
  have := h.cell hi
  rw [Nat.zero_add, this]
  simp [part, hi]

/-- .. in a block of its own, the first behind those that were there -/
def NewAt (zs : List Nat) (w : World) (e : Ending) (w' : World) : Prop :=
  e = .returned (.slice (some ⟨w.heap.size, 0, none⟩) zs.length zs.length) ∧ FRow w' (.slice (some ⟨w.heap.size, 0, none⟩) zs.length zs.length) zs ∧ Below w.heap.size w w' ∧ Cells w' w.heap.size (zs.map (.float .f32))

theorem cells_of_part {wr : World} {b : Nat} {zs : List Nat} (h : wr.rowIs b 22 zs.length (part zs zs.length)) (hb : b < wr.heap.size) : Cells wr b (zs.map (.float .f32)) := by
  refine ⟨fun i v hv => ?_, fun i => h.frozen i, hb⟩
  have hi : i < zs.length := by
    have := (List.getElem?_eq_some_iff.1 hv).1
    simpa using this
  rw [h.cell hi]
  simp [hi] at hv
  simp [part, hi, hv, List.getD_eq_getElem?_getD]

set_option maxHeartbeats 800000 in
theorem toF_new (v : Value) (zs : List Nat) (w : World) (h : FRow w v zs) (hl : zs.length ≤ 1048576) :
    Calls Try.prog 23 #[v] w (NewAt zs w) := by
  rcases h with ⟨⟨a0, c0, rfl⟩, rfl⟩ | ⟨b, off, cap, rfl, hm, hc⟩
  · have hmk : ∀ w, (Instr.makeSlice 23 (.int .i64 0) (.int .i64 0)).run Try.prog w = .ok (.slice (some ⟨w.heap.size, 0, none⟩) 0 0) (w.alloc (.cells (madeCells #[.float .f32 0] 0) 22)) := run_make_row' (P := Try.prog) 23 22 (.float .f32 0) 4 Try.underlying23 Try.rowOf32 rfl .i64 .i64 0 (by omega) (by omega)
    go_enter Try.func23, Try.ntmps23
    go_wp2
    go_loopw [4] (fun i wr => i = .int .i64 0 ∧ wr = w.alloc (.cells (madeCells #[.float .f32 0] 0) 22)) (fun i _ => 0)
    case atStart => exact ⟨rfl, rfl⟩
    case round =>
      obtain ⟨rfl, rfl⟩ := hrel
      go_wp2
      go_ret
      exact ⟨rfl, .inl ⟨⟨_, _, rfl⟩, rfl⟩, (Below.refl _ _).alloc (Nat.le_refl _) _, fun i v hv => by simp at hv, fun i => by simp, by simp⟩
  · generalize hn : zs.length = n at *
    have Hn := Lib.hid hn
    clear hn
    have hmk := run_make_row' (P := Try.prog) 23 22 (.float .f32 0) 4 Try.underlying23 Try.rowOf32 rfl .i64 .i64 n (by omega) (by omega)
    go_enter Try.func23, Try.ntmps23
    go_wp2
    go_loopw [4] (fun i wr => ∃ k : Nat, k ≤ n ∧ i = .int .i64 k ∧ Below w.heap.size w wr ∧ wr.rowIs w.heap.size 22 n (part zs k)) (fun i _ => n - (intOf i).toNat)
    case atStart => exact ⟨0, Nat.zero_le _, rfl, (Below.refl _ _).alloc (Nat.le_refl _) _, (World.rowIs_made w (.float .f32 0) n 22).congr (fun i _ => by simp [part])⟩
    case round =>
      obtain ⟨k, hk, rfl, hb, hr⟩ := hrel
      by_cases hlt : k < n
      · have h1 := hc k hlt
        have h2 : wr.cell? ⟨b, off + k, none⟩ = some (.float .f32 (zs.getD k 0)) := by rw [hb.cell (p := ⟨b, off + k, none⟩) (cell_lt h1)]; exact h1
        have h3 : wr.cell? ⟨w.heap.size, k, none⟩ = some (part zs k k) := hr.cell hlt
        have h4 : wr.frozen? ⟨w.heap.size, k, none⟩ = false := hr.frozen k
        have hr' := Lib.hid (hr.set k (.float .f32 (zs.getD k 0)))
        have hb' := Lib.hid (hb.setCell (p := ⟨w.heap.size, k, none⟩) (Nat.le_refl _) (.float .f32 (zs.getD k 0)))
        clear hmk hc h1 hb hr
        go_wp2
        go_roundw
        case rel =>
          refine ⟨k + 1, by omega, by go_num, by simpa using hb'.out, ?_⟩
          have := hr'.out
          refine World.rowIs.congr (by simpa using this) (fun i _ => ?_)
          simp only [part]
          by_cases e : i = k
          · subst e; simp
          · rw [if_neg e]
            by_cases h : i < k
            · rw [if_pos h, if_pos (by omega)]
            · rw [if_neg h, if_neg (by omega)]
        case measure => simp [intOf]; omega
      · have e : k = n := by omega
        have hr' := Lib.hid hr
        have hb' := Lib.hid (And.intro hb hr.lt)
        have He := Lib.hid e
        clear hmk hc hb hr e
        go_wp2
        go_ret
        have hr := hr'.out
        have hz := Hn.out
        have := He.out
        subst this
        subst hz
        exact ⟨rfl, row_of_part hr hm, hb'.out.1, cells_of_part hr hb'.out.2⟩

theorem toF_any (v : Value) (zs : List Nat) (w : World) (h : FRow w v zs) (hl : zs.length ≤ 1048576) :
    Calls Try.prog 23 #[v] w (NewRow zs w) := (toF_new v zs w h hl).mono fun _ _ ⟨he, hf, hb, _⟩ => ⟨_, he, hf, hb⟩

/-- two lists of numbers that are the same -/
def SameList (zs ys : List Nat) : Prop := zs.length = ys.length ∧ ∀ i, i < zs.length → cn .f32 (zs.getD i 0) = cn .f32 (ys.getD i 0)
theorem SameList.refl (zs : List Nat) : SameList zs zs := ⟨rfl, fun _ _ => rfl⟩

theorem FRow.empty {w : World} {v : Value} (h : FRow w v []) : ∃ a c, v = .slice a 0 c := by
  rcases h with ⟨h, _⟩ | ⟨b, off, cap, rfl, _⟩
  · exact h
  · exact ⟨_, _, rfl⟩

theorem eqF_empty (a a' : Option Addr) (c c' : Nat) (w : World) : Calls Try.prog 25 #[.slice a 0 c, .slice a' 0 c'] w (Yes w) := by
  go_enter Try.func25, Try.ntmps25
  go_wp2
  go_loop [5] (fun i => i = .int .i64 0) (fun _ => 0)
  case atStart => rfl
  case round =>
    obtain rfl := hrel
    go_wp2
    go_ret
    exact Yes.same

set_option maxHeartbeats 800000 in
theorem eqF_rows (zs ys : List Nat) (b off cap b' off' cap' : Nat) (w : World) (n : Nat) (hn : zs.length = n) (hm : n ≤ maxLen) (hs : ∀ i, i < n → cn .f32 (zs.getD i 0) = cn .f32 (ys.getD i 0))
    (hc : ∀ i, i < n → w.cell? ⟨b, off + i, none⟩ = some (.float .f32 (zs.getD i 0))) (hc' : ∀ i, i < n → w.cell? ⟨b', off' + i, none⟩ = some (.float .f32 (ys.getD i 0))) :
    Calls Try.prog 25 #[.slice (some ⟨b, off, none⟩) n cap, .slice (some ⟨b', off', none⟩) n cap'] w (Yes w) := by
  unfold maxLen at hm
  have Hs := Lib.hid hs
  have Hn := Lib.hid hn
  clear hs hn
  go_enter Try.func25, Try.ntmps25
  go_wp2
  go_loopw [5] (fun i wr => ∃ k q : Nat, k ≤ n ∧ i = .int .i64 k ∧ wr = w.drewN q) (fun i _ => n - (intOf i).toNat)
  case atStart => exact ⟨0, 0, Nat.zero_le _, rfl, rfl⟩
  case round =>
    obtain ⟨k, q, hk, rfl, rfl⟩ := hrel
    by_cases hlt : k < n
    · have h1 := hc k hlt
      have h2 := hc' k hlt
      have hz := Lib.hid (Hs.out k hlt)
      clear hc hc'
      have hi : (0 : Int) ≤ (k : Int) := by omega
      have hi' : (k : Int) < (n : Int) := by omega
      go_wp2
      refine wp_region_loose (fun _ _ v => v = .bool true) (by kernel_rfl) (by kernel_rfl) ?_
      (refine wpLoose_plain rfl (fun K hK => ?_); go_simp; refine hK _ ?_; clear hK K)
      (refine wpLoose_plain rfl (fun K hK => ?_); go_simp; refine hK _ ?_; clear hK K)
      (refine wpLoose_plain rfl (fun K hK => ?_); go_simp; refine hK _ ?_; clear hK K)
      (refine wpLoose_plain rfl (fun K hK => ?_); go_simp; refine hK _ ?_; clear hK K)
      (refine wpLoose_up rfl Try.underlying22 Try.underlying55 _ rfl _ rfl ?_; intro _ _)
      (refine wpLoose_plain rfl (fun K hK => ?_); go_simp; refine hK _ ?_; clear hK K)
      (refine wpLoose_plain rfl (fun K hK => ?_); go_simp; refine hK _ ?_; clear hK K)
      (refine wpLoose_plain rfl (fun K hK => ?_); go_simp; refine hK _ ?_; clear hK K)
      (refine wpLoose_plain rfl (fun K hK => ?_); go_simp; refine hK _ ?_; clear hK K)
      (refine wpLoose_up rfl Try.underlying22 Try.underlying55 _ rfl _ rfl ?_; intro _ _)
      rename_i r1 hu1 r2 hu2
      refine wpLoose_call rfl 37 #[.float .f64 r1, .float .f64 r2] (fun w1 => ?_) (fun w1 _ => ?_) ?_
      · go_simp
      · refine (same_end w1 hu1 hu2 (by simpa using hz.out)).mono ?_
        rintro e w2 ⟨rfl, m, rfl⟩
        exact ⟨_, rfl, rfl, m, rfl⟩
      rintro v rfl
      (refine wpLoose_plain rfl (fun K hK => ?_); go_simp; refine hK _ ?_; clear hK K)
      (refine wpLoose_nil ?_; rintro _ ⟨nq, rfl⟩)
      go_wp2
      go_roundw
      case rel => exact ⟨k + 1, _, by omega, by go_num, rfl⟩
      case measure => simp [intOf]; omega
    · clear hc hc'
      go_wp2
      go_ret
      exact Yes.drewN

/-- two slices of numbers that are the same, and slices of numbers alone -/
theorem eqF_any (v v' : Value) (zs ys : List Nat) (w : World) (h : FRow w v zs) (h' : FRow w v' ys) (hs : SameList zs ys) :
    Calls Try.prog 25 #[v, v'] w (Yes w) := by
  obtain ⟨hl, hs⟩ := hs
  by_cases h0 : zs.length = 0
  · obtain rfl : zs = [] := List.length_eq_zero_iff.1 h0
    obtain rfl : ys = [] := List.length_eq_zero_iff.1 hl.symm
    obtain ⟨a, c, rfl⟩ := h.empty
    obtain ⟨a', c', rfl⟩ := h'.empty
    exact eqF_empty a a' c c' w
  · rcases h with ⟨_, rfl⟩ | ⟨b, off, cap, rfl, hm, hc⟩
    · exact absurd rfl h0
    · rcases h' with ⟨_, rfl⟩ | ⟨b', off', cap', rfl, hm', hc'⟩
      · exact absurd hl h0
      · rw [← hl] at hc' ⊢
        exact eqF_rows zs ys b off cap b' off' cap' w zs.length rfl hm hs hc hc'
end Go.Proofs.Ytkbdidpodcclfaa

/- Copies of lists in blocks of their own. -/
namespace Go.Proofs.Ytkbdidpodcclfaa
open Go.RowKit

def NewSl (zs : List Nat) (w : World) (e : Ending) (w' : World) : Prop := ∃ p, e = .returned (sl p zs) ∧ w.heap.size ≤ p ∧ Cells w' p (fl zs) ∧ Below w.heap.size w w'
theorem toF_sl (v : Value) (zs : List Nat) (w : World) (h : FRow w v zs) (hl : zs.length ≤ 1048576) : Calls Try.prog 23 #[v] w (NewSl zs w) :=
  (toF_new v zs w h hl).mono fun _ _ ⟨he, _, hb, hc⟩ => ⟨_, he, Nat.le_refl _, hc, hb⟩

/-- true, and nothing that was there has turned -/
def YesB (w : World) (e : Ending) (w' : World) : Prop := e = .returned (.bool true) ∧ Below w.heap.size w w'
/-- how a slice's length is taken from what is left -/
theorem sz32_fit (a : Option Addr) (n c left : Nat) (w : World) (hn : n ≤ left) (hl : left ≤ 1048576) :
    Calls Try.prog 43 #[.slice a n c, .int .i64 left] w fun e w' => e = .returned (.int .i64 ((left - n : Nat) : Int)) ∧ w = w' := by
  have e : ((left : Int) - (n : Int)) = ((left - n : Nat) : Int) := by omega
  go_enter Try.func43, Try.ntmps43
  go_wp2
  go_ret
  exact ⟨by simp, rfl⟩

theorem sz32_over (a : Option Addr) (n c left : Nat) (w : World) (hn : left < n) (hm : n ≤ 9223372036854775807) (hl : left ≤ 1048576) :
    Calls Try.prog 43 #[.slice a n c, .int .i64 left] w fun e w' => e = .returned (.int .i64 (-1)) ∧ w = w' := by
  go_enter Try.func43, Try.ntmps43
  go_wp2
  go_ret
  exact ⟨rfl, rfl⟩
end Go.Proofs.Ytkbdidpodcclfaa

/- Rods: a struct of four slices of 32-bit numbers, in four cells. -/
namespace Go.Proofs.Ytkbdidpodcclfaa
open Go.RowKit

/-- the four lists of a rod -/
structure RL where
  W : List Nat
  E : List Nat
  H : List Nat
  T : List Nat

def RL.size (r : RL) : Nat := r.W.length + r.E.length + r.H.length + r.T.length

/-- four slices read as the lists of a rod -/
structure RRow (w : World) (a b c d : Value) (r : RL) : Prop where
  W : FRow w a r.W
  E : FRow w b r.E
  H : FRow w c r.H
  T : FRow w d r.T

theorem RRow.below {w w' : World} {a b c d : Value} {r : RL} (h : RRow w a b c d r) (hb : Below w.heap.size w w') : RRow w' a b c d r :=
  ⟨h.W.below hb, h.E.below hb, h.H.below hb, h.T.below hb⟩
theorem RRow.drewN {w : World} {a b c d : Value} {r : RL} {n : Nat} (h : RRow w a b c d r) : RRow (w.drewN n) a b c d r := ⟨h.W, h.E, h.H, h.T⟩

/-- four cells of a block that may be written -/
structure At4 (w : World) (p : Nat) (a b c d : Value) : Prop where
  c0 : w.cell? ⟨p, 0, none⟩ = some a
  c1 : w.cell? ⟨p, 1, none⟩ = some b
  c2 : w.cell? ⟨p, 2, none⟩ = some c
  c3 : w.cell? ⟨p, 3, none⟩ = some d
  f : ∀ i, w.frozen? ⟨p, i, none⟩ = false

theorem At4.lt {w : World} {p : Nat} {a b c d : Value} (h : At4 w p a b c d) : p < w.heap.size := cell_lt h.c0
theorem At4.below {w w' : World} {p B : Nat} {a b c d : Value} (h : At4 w p a b c d) (hb : Below B w w') (hp : p < B) : At4 w' p a b c d :=
  ⟨(hb.cell (p := ⟨p, 0, none⟩) hp).trans h.c0, (hb.cell (p := ⟨p, 1, none⟩) hp).trans h.c1, (hb.cell (p := ⟨p, 2, none⟩) hp).trans h.c2, (hb.cell (p := ⟨p, 3, none⟩) hp).trans h.c3,
    fun i => (hb.frozen (p := ⟨p, i, none⟩) hp).trans (h.f i)⟩
theorem At4.kept {w w' : World} {p : Nat} {a b c d : Value} (h : At4 w p a b c d) (hb : Below w.heap.size w w') : At4 w' p a b c d := h.below hb h.lt
theorem At4.drewN {w : World} {p n : Nat} {a b c d : Value} (h : At4 w p a b c d) : At4 (w.drewN n) p a b c d := ⟨h.c0, h.c1, h.c2, h.c3, h.f⟩
theorem At4.made (w : World) (a b c d : Value) (t : TypeId) : At4 (w.alloc (.cells #[a, b, c, d] t)) w.heap.size a b c d :=
  ⟨by simp, by simp, by simp, by simp, fun i => by simp⟩
theorem At4.alloc {w : World} {p : Nat} {a b c d : Value} (h : At4 w p a b c d) (o : Obj) : At4 (w.alloc o) p a b c d := h.kept ((Below.refl _ _).alloc (Nat.le_refl _) o)

end Go.Proofs.Ytkbdidpodcclfaa

/- Arguments that are structs, opened: a rod (four slices of 32-bit numbers) and an end (an integer and two 32-bit numbers). -/
namespace Go.Proofs.Ytkbdidpodcclfaa
open Go.RowKit Go.ChangeShapes Go.WideShapes Go.Joins Go.Deep

section
variable {H : Type} {enc : TypeId × Value → H} {P : Program} {w : World} {base : Nat} {spare : Nat → Bool} {held : Bool}

theorem trod_f32 {t : TypeId} {n : Nat} {v : Value} {y : DataW H × List MemPlace} (he : P.underlying t = some (.float .f32)) (h : DataW.trod enc P w base spare held n t [v] = some y) :
    ∃ b, v = .float .f32 b ∧ (Lit.float .f32 b).wf = true := by
  cases n with
  | zero => simp [DataW.trod] at h
  | succ n =>
    cases v <;> simp [DataW.trod, he] at h
    rename_i k b
    obtain ⟨⟨rfl, hw⟩, _⟩ := h
    exact ⟨b, rfl, hw⟩

theorem trod_i64 {t : TypeId} {n : Nat} {v : Value} {y : DataW H × List MemPlace} (he : P.underlying t = some (.int .i64)) (h : DataW.trod enc P w base spare held n t [v] = some y) :
    ∃ b, v = .int .i64 b ∧ (Lit.int .i64 b).wf = true := by
  cases n with
  | zero => simp [DataW.trod] at h
  | succ n =>
    cases v <;> simp [DataW.trod, he] at h
    rename_i k b
    obtain ⟨⟨rfl, hw⟩, _⟩ := h
    exact ⟨b, rfl, hw⟩

theorem trod_f32s {t e : TypeId} {n : Nat} {v : Value} {y : DataW H × List MemPlace} (ht : P.underlying t = some (.slice e)) (he : P.underlying e = some (.float .f32)) (hc : P.cellsOf e = 1)
    (h : DataW.trod enc P w base spare held n t [v] = some y) : ∃ zs, FRow w v zs ∧ ∀ i, i < zs.length → (Lit.float .f32 (zs.getD i 0)).wf = true := by
  have hv : ∃ a len cap, v = .slice a len cap := by
    rcases Deep.open_slice1 ht hc h with ⟨hcs, _⟩ | ⟨x, l, c, m, n, V, D, Pl, hcs, _⟩
    · simp at hcs; exact ⟨_, _, _, hcs⟩
    · simp at hcs; exact ⟨_, _, _, hcs⟩
  obtain ⟨a, len, cap, rfl⟩ := hv
  obtain ⟨zs, hz, hw⟩ := open_f32s (enc := enc) (P := P) (w := w) (base := base) (spare := spare) (held := held) (d := y.1) (ps := y.2) ht he hc ⟨n, by simpa [Value.cells] using h⟩
  exact ⟨zs, hz, hw⟩

theorem open_rodw {r : Reach} {b0 : Nat} {t s e : TypeId} {f0 f1 f2 f3 : Field} {v : Value} {d : DataW H} {p : List MemPlace} (hs : P.underlying t = some (.struct #[f0, f1, f2, f3])) (hone : oneCellFields P #[f0, f1, f2, f3] = true) (hC : P.cellsOf t = 4)
    (e0 : f0.type = s) (e1 : f1.type = s) (e2 : f2.type = s) (e3 : f3.type = s) (ht : P.underlying s = some (.slice e)) (he : P.underlying e = some (.float .f32)) (hc : P.cellsOf e = 1)
    (hv : Value.okWide P w r b0 t v) (h : DataW.Trod enc P w base spare held t v d p) : ∃ v0 v1 v2 v3 rl, v = .agg #[v0, v1, v2, v3] ∧ RRow w v0 v1 v2 v3 rl ∧ (∀ i, i < rl.W.length → (Lit.float .f32 (rl.W.getD i 0)).wf = true) ∧ (∀ i, i < rl.E.length → (Lit.float .f32 (rl.E.getD i 0)).wf = true) ∧ (∀ i, i < rl.H.length → (Lit.float .f32 (rl.H.getD i 0)).wf = true) ∧ (∀ i, i < rl.T.length → (Lit.float .f32 (rl.T.getD i 0)).wf = true) := by
  obtain ⟨c0, c1, c2, c3, y0, y1, y2, y3, m, rfl, rfl, rfl, h0, h1, h2, h3⟩ := open_agg4 hs hone hC hv h
  rw [e0] at h0; rw [e1] at h1; rw [e2] at h2; rw [e3] at h3
  obtain ⟨z0, k0, m0⟩ := trod_f32s ht he hc h0
  obtain ⟨z1, k1, m1⟩ := trod_f32s ht he hc h1
  obtain ⟨z2, k2, m2⟩ := trod_f32s ht he hc h2
  obtain ⟨z3, k3, m3⟩ := trod_f32s ht he hc h3
  exact ⟨c0, c1, c2, c3, ⟨z0, z1, z2, z3⟩, rfl, ⟨k0, k1, k2, k3⟩, m0, m1, m2, m3⟩

theorem open_rod {r : Reach} {b0 : Nat} {t s e : TypeId} {f0 f1 f2 f3 : Field} {v : Value} {d : DataW H} {p : List MemPlace} (hs : P.underlying t = some (.struct #[f0, f1, f2, f3])) (hone : oneCellFields P #[f0, f1, f2, f3] = true) (hC : P.cellsOf t = 4)
    (e0 : f0.type = s) (e1 : f1.type = s) (e2 : f2.type = s) (e3 : f3.type = s) (ht : P.underlying s = some (.slice e)) (he : P.underlying e = some (.float .f32)) (hc : P.cellsOf e = 1)
    (hv : Value.okWide P w r b0 t v) (h : DataW.Trod enc P w base spare held t v d p) : ∃ v0 v1 v2 v3 rl, v = .agg #[v0, v1, v2, v3] ∧ RRow w v0 v1 v2 v3 rl := by
  obtain ⟨v0, v1, v2, v3, rl, e, h, _⟩ := open_rodw hs hone hC e0 e1 e2 e3 ht he hc hv h
  exact ⟨v0, v1, v2, v3, rl, e, h⟩

theorem open_end {r : Reach} {b0 : Nat} {t : TypeId} {f0 f1 f2 : Field} {v : Value} {d : DataW H} {p : List MemPlace} (hs : P.underlying t = some (.struct #[f0, f1, f2])) (hone : oneCellFields P #[f0, f1, f2] = true) (hC : P.cellsOf t = 3)
    (e0 : P.underlying f0.type = some (.int .i64)) (e1 : P.underlying f1.type = some (.float .f32)) (e2 : P.underlying f2.type = some (.float .f32))
    (hv : Value.okWide P w r b0 t v) (h : DataW.Trod enc P w base spare held t v d p) : ∃ k x y, v = .agg #[.int .i64 k, .float .f32 x, .float .f32 y] ∧ (Lit.int .i64 k).wf = true ∧ (Lit.float .f32 x).wf = true ∧ (Lit.float .f32 y).wf = true := by
  obtain ⟨c0, c1, c2, y0, y1, y2, m, rfl, rfl, rfl, h0, h1, h2⟩ := open_agg3 hs hone hC hv h
  obtain ⟨k, rfl, hk⟩ := trod_i64 e0 h0
  obtain ⟨x, rfl, hx⟩ := trod_f32 e1 h1
  obtain ⟨y, rfl, hy⟩ := trod_f32 e2 h2
  exact ⟨k, x, y, rfl, hk, hx, hy⟩
end
end Go.Proofs.Ytkbdidpodcclfaa

/- Only one block has turned; the laws' marks as numbers. -/
namespace Go.Proofs.Ytkbdidpodcclfaa
open Go.RowKit
set_option linter.unusedVariables false

/-- only block g has turned -/
structure Onl (g : Nat) (w w' : World) : Prop where
  os : w'.os = w.os
  tape : w'.tape = w.tape
  output : w'.output = w.output
  size : w'.heap.size = w.heap.size
  block : ∀ k, k ≠ g → w'.heap[k]? = w.heap[k]?
theorem Onl.refl (g : Nat) (w : World) : Onl g w w := ⟨rfl, rfl, rfl, rfl, fun _ _ => rfl⟩
theorem Onl.trans {g : Nat} {a b c : World} (h : Onl g a b) (k : Onl g b c) : Onl g a c :=
  ⟨k.os.trans h.os, k.tape.trans h.tape, k.output.trans h.output, k.size.trans h.size, fun j hj => (k.block j hj).trans (h.block j hj)⟩
theorem Onl.setCell {g : Nat} {a w : World} (h : Onl g a w) (i : Nat) (u : Value) : Onl g a (w.setCell ⟨g, i, none⟩ u) := by
  have hb := (Below.refl 0 w).setCell (p := ⟨g, i, none⟩) (Nat.zero_le _) u
  exact ⟨hb.os.trans h.os, hb.tape.trans h.tape, hb.output.trans h.output, (World.size_setCell ..).trans h.size, fun k hk => (Below.heap_setCell w ⟨g, i, none⟩ u k hk).trans (h.block k hk)⟩
theorem Onl.drewN {g n : Nat} {a w : World} (h : Onl g a w) : Onl g a (w.drewN n) := ⟨h.os, h.tape, h.output, h.size, h.block⟩
theorem Onl.below {g B : Nat} {a w : World} (h : Onl g a w) (hB : B ≤ g) : Below B a w :=
  ⟨h.os, h.tape, h.output, Nat.le_of_eq h.size.symm, fun k hk => h.block k (by omega)⟩

/-- the number k, as a 32-bit number -/
def fb (k : Nat) : Nat := floatOfInt .f32 (k : Int)
theorem fb_self (k : Nat) (h : k < 500) : (FloatKind.f32.format.order (fb k) (fb k) == some .eq) = true := by
  have : ∀ k, k < 500 → (FloatKind.f32.format.order (fb k) (fb k) == some .eq) = true := by decide +kernel
  exact this k h
theorem rowIs_below {w w' : World} {b n : Nat} {t : TypeId} {f : Nat → Value} (h : w.rowIs b t n f) (hb : Below w.heap.size w w') : w'.rowIs b t n f := by
  have hl := h.lt
  unfold World.rowIs at *
  rw [hb.block b hl]
  exact h
theorem rowIs_far {w : World} {b n q i : Nat} {t : TypeId} {f : Nat → Value} {u : Value} (h : w.rowIs b t n f) (hq : b ≠ q) : (w.setCell ⟨q, i, none⟩ u).rowIs b t n f := by
  unfold World.rowIs at *
  rw [Below.heap_setCell w ⟨q, i, none⟩ u b hq]
  exact h

/-- of what was there, only blocks in S have turned -/
structure Tur (S : Nat → Prop) (w w' : World) : Prop where
  os : w'.os = w.os
  tape : w'.tape = w.tape
  output : w'.output = w.output
  size : w.heap.size ≤ w'.heap.size
  block : ∀ k, k < w.heap.size → ¬ S k → w'.heap[k]? = w.heap[k]?
theorem Tur.trans {S : Nat → Prop} {a b c : World} (h : Tur S a b) (k : Tur S b c) : Tur S a c :=
  ⟨k.os.trans h.os, k.tape.trans h.tape, k.output.trans h.output, Nat.le_trans h.size k.size, fun j hj hs => (k.block j (Nat.lt_of_lt_of_le hj h.size) hs).trans (h.block j hj hs)⟩
theorem Tur.of_below {S : Nat → Prop} {w w' : World} (h : Below w.heap.size w w') : Tur S w w' := ⟨h.os, h.tape, h.output, h.size, fun k hk _ => h.block k hk⟩
theorem Tur.of_onl {S : Nat → Prop} {g : Nat} {w w' : World} (h : Onl g w w') (hg : S g) : Tur S w w' :=
  ⟨h.os, h.tape, h.output, Nat.le_of_eq h.size.symm, fun k _ hs => h.block k (fun e => hs (by rw [e]; exact hg))⟩
theorem Tur.below {S : Nat → Prop} {B : Nat} {w w' : World} (h : Tur S w w') (hB : ∀ k, S k → B ≤ k) (hs : B ≤ w.heap.size) : Below B w w' :=
  ⟨h.os, h.tape, h.output, h.size, fun k hk => h.block k (by omega) (fun hS => by have := hB k hS; omega)⟩
theorem Tur.cells {S : Nat → Prop} {w w' : World} {p : Nat} {vs : List Value} (h : Tur S w w') (hc : Cells w p vs) (hp : ¬ S p) : Cells w' p vs :=
  ⟨fun i v hv => (World.cell?_of_block (w := w) (h.block p hc.lt hp)).trans (hc.1 i v hv), fun i => (World.frozen?_of_block (w := w) (h.block p hc.lt hp)).trans (hc.2.1 i), Nat.lt_of_lt_of_le hc.lt h.size⟩
theorem Tur.row {S : Nat → Prop} {w w' : World} {b n : Nat} {t : TypeId} {f : Nat → Value} (h : Tur S w w') (hr : w.rowIs b t n f) (hb : ¬ S b) : w'.rowIs b t n f := by
  have hl := hr.lt
  unfold World.rowIs at *
  rw [h.block b hl hb]
  exact hr

end Go.Proofs.Ytkbdidpodcclfaa

/- Drawn regions in which memory may be made besides: what is held of the world is that nothing that was there has turned. -/
namespace Go.Proofs.Ytkbdidpodcclfaa
open Go.RowKit

section
variable {P : Program} {ops : Array Oper} {C : World → Prop} {Sg : FuncId → Array Value → Value → Prop}

theorem wp_region_looseC {id : Nat} {Q : Exit → Act → World → Prop} {a : Act} {w : World} {l : List Oper} (C : World → Prop) (Sg : FuncId → Array Value → Value → Prop) (hC : C (w.drewN 1)) (hm : P.follows .mixedOrders = true) (hB : Region.lexB .any l.toArray = true)
    (h : wpLoose P l.toArray C Sg (fun a' => ∀ w', C w' → Q .normal a' w') l a) : (Code.region id l.toArray true).wp P Q a w := by
  simp only [Region.lexB, Bool.and_eq_true] at hB
  refine wp_region_any hm (wpAny_of_loose (C := C) (Sg := Sg) (Q := fun a' => ∀ w', C w' → Q .normal a' w') (fun _ w' hw' h => h w' hw') _ _ _ _ hC ?_)
  have := wpAnyL_lex (C := C) (Sg := Sg) (md := .any) (w0 := w.drewN 1) hC hB.1 l 0 (Array.replicate l.length false) a (by simp) (by simpa using hB.2) h
  simpa using this

/-- nothing that was there has turned -/
abbrev Ext (w : World) : World → Prop := fun w' => Below w.heap.size w w'
theorem Ext.start (w : World) : Ext w (w.drewN 1) := below_drewN (Below.refl _ _) 1
theorem Ext.draw {w w' : World} (h : Ext w w') (j : Nat) : Ext w (w'.drewN j) := below_drewN h j

variable {Q : Act → Prop} {a : Act} {o : Oper} {rest : List Oper} {w : World}

theorem wpLoose_val (hgd : o.guard = none) (v : Value) (hv : ∀ w', C w' → (execOp a.eval o).run P w' = .ok (.value v) w') (h : wpLoose P ops C Sg Q rest (a.put o.dst v)) : wpLoose P ops C Sg Q (o :: rest) a :=
  wpLoose_some hgd (· = v) (fun w' hw' => ⟨v, w', rfl, hw', hv w' hw'⟩) (fun _ e => by rw [e]; exact h)

theorem wpLoose_valK (hgd : o.guard = none) (v : Value) (hv : ∀ w', C w' → (execOp a.eval o).run P w' = .ok (.value v) w') (h : ∀ K : Act → Prop, (∀ a, wpLoose P ops C Sg Q rest a → K a) → K (a.put o.dst v)) : wpLoose P ops C Sg Q (o :: rest) a :=
  wpLoose_val hgd v hv (h _ fun _ h => h)

theorem wpLoose_farithB (hgd : o.guard = none) (op : BinOp) (t : TypeId) (x y : Operand) (t' : TypeId) (ho : o.op = .binOp op t x y t') (hop : isArith op = true) (k : FloatKind) (m n : Nat)
    (hx : a.eval x = .float k m) (hy : a.eval y = .float k n) (h : ∀ r, FR op k m n r → wpLoose P ops (Ext w) Sg Q rest (a.put o.dst (.float k r))) : wpLoose P ops (Ext w) Sg Q (o :: rest) a := by
  refine wpLoose_some hgd (fun v => ∃ r, FR op k m n r ∧ v = .float k r) (fun w1 hw1 => ?_) (fun v ⟨r, hr, e⟩ => by rw [e]; exact h r hr)
  obtain ⟨r, j, hr, hw⟩ := run_farith (P := P) op hop t k m n w1
  refine ⟨_, _, ⟨r, hr, rfl⟩, Ext.draw hw1 j, ?_⟩
  have hg : (eqGuard op t x y (.float k m) (.float k n)) = pure () := by
    cases op <;> simp [isArith] at hop <;> rfl
  unfold execOp
  simp only [ho, hx, hy, hg, Sem.run_bind, Sem.run_pure, Result.andThen_ok, hw]

/-- a call of a function, by its contract -/
theorem wpLoose_callS (hgd : o.guard = none) (f : FuncId) (args : Array Value) (hr : ∀ w1, (execOp a.eval o).run P w1 = .ok (.enter f args) w1)
    (hc : ∀ w1, Ext w w1 → Calls P f args w1 fun e w2 => ∃ v, e = .returned v ∧ Sg f args v ∧ Below w1.heap.size w1 w2) (h : ∀ v, Sg f args v → wpLoose P ops (Ext w) Sg Q rest (a.put o.dst v)) :
    wpLoose P ops (Ext w) Sg Q (o :: rest) a := by
  have hw : Region.wanted o (yielded ops a.tmps) = true := by simp [Region.wanted, hgd]
  unfold wpLoose
  rw [if_pos hw]
  refine ⟨fun w1 hw1 => ?_, ?_⟩
  · rw [hr w1]
    exact ⟨hw1, (hc w1 hw1).mono fun e w2 ⟨v, he, hs, hb⟩ => ⟨v, he, hs, below_step hw1 hb⟩⟩
  · rintro u ⟨w1, hw1, hu⟩
    rw [hr w1] at hu
    exact h _ hu
end

/-- what was there is there -/
theorem Ext.cell {w w' : World} (h : Ext w w') {p i : Nat} {v : Value} (hv : w.cell? ⟨p, i, none⟩ = some v) : w'.cell? ⟨p, i, none⟩ = some v :=
  (Below.cell h (p := ⟨p, i, none⟩) (cell_lt hv)).trans hv
end Go.Proofs.Ytkbdidpodcclfaa

/- A slice of 32-bit numbers that a call makes itself, and appends to. -/
namespace Go.Proofs.Ytkbdidpodcclfaa
open Go.RowKit
set_option linter.unusedVariables false

theorem info32 : ∃ i, Try.prog.info? 22 = some i ∧ i.zero = some (.float .f32 0) ∧ i.size = 1 ∧ i.bytes = 4 := by
  have h := Try.rowOf32
  cases e : Try.prog.info? 22 with
  | none => rw [e] at h; simp at h
  | some i =>
    rw [e] at h
    simp only [Option.map_some, Option.some.injEq, Prod.mk.injEq] at h
    exact ⟨i, rfl, h.1, h.2.1, h.2.2⟩

/-- a slice of the call's own reads as zs -/
def Own (w : World) (base : Nat) (v : Value) (zs : List Nat) : Prop := w.ownsRow base 22 1 v zs.length (fl zs)
theorem Own.drewN {w : World} {base : Nat} {v : Value} {zs : List Nat} (h : Own w base v zs) (n : Nat) : Own (w.drewN n) base v zs := h
theorem Own.al {w : World} {base : Nat} {v : Value} {zs : List Nat} (h : Own w base v zs) (o : Obj) : Own (w.alloc o) base v zs := World.ownsRow.alloc h o
theorem Own.kept {w w' : World} {base : Nat} {v : Value} {zs : List Nat} (h : Own w base v zs) (hb : Below w.heap.size w w') : Own w' base v zs := by
  obtain ⟨h1, h2⟩ := h
  refine ⟨h1, ?_⟩
  rcases h2 with h2 | ⟨g, cap, cur, e, hg, hc, h3⟩
  · exact .inl h2
  · refine .inr ⟨g, cap, cur, e, hg, ?_, h3⟩
    have hlt : g < w.heap.size := by
      by_cases hx : g < w.heap.size
      · exact hx
      · rw [Array.getElem?_eq_none (by simpa using hx)] at hc
        cases hc
    rw [hb.block g hlt]
    exact hc
theorem Own.row {w : World} {base : Nat} {v : Value} {zs : List Nat} (h : Own w base v zs) (hm : zs.length ≤ 1048576) : FRow w v zs := by
  have h0 := h
  obtain ⟨h1, h2⟩ := h
  have hx : maxLen = 9223372036854775807 := rfl
  rcases h2 with ⟨rfl, hn⟩ | ⟨g, cap, cur, e, hg, hc, h3⟩
  · have : zs = [] := List.length_eq_zero_iff.1 hn
    subst this
    exact .inl ⟨⟨_, _, rfl⟩, rfl⟩
  · refine .inr ⟨g, 0, cap, e, by omega, fun i hi => ?_⟩
    subst e
    rw [Nat.zero_add, World.ownsRow.cellAt h0 i (by omega)]
    simp [fl, hi, List.getD_eq_getElem?_getD]
theorem Own.empty (w : World) (base : Nat) (hb : base ≤ w.heap.size) : Own (w.alloc (.cells #[] 22)) base (.slice (some ⟨w.heap.size, 0, none⟩) 0 0) [] :=
  World.ownsRow_lit (w := w) (base := base) (e := 22) (size := 1) #[] 0 hb (by decide) rfl

theorem wpList_app32 {ops : Array Oper} {rest : List Oper} {o : Oper} {a : Act} {Q : Exit → Act → World → Prop} {w : World} (hgd : o.guard = none) (s x : Operand)
    (ho : o.op = .call { callee := .builtin .append, args := #[s, x], argTypes := #[23, 23] })
    (base : Nat) (v : Value) (zs : List Nat) (hs : a.eval s = v) (hown : Own w base v zs) (q z c : Nat) (hx : a.eval x = .slice (some ⟨q, 0, none⟩) 1 c) (hq : w.cell? ⟨q, 0, none⟩ = some (.float .f32 z))
    (hk : zs.length ≤ 1048576) (hbase : base ≤ w.heap.size)
    (h : ∀ v' w', Own w' base v' (zs ++ [z]) → Below base w w' → wpList Try.prog ops Q rest (a.put o.dst v') w') : wpList Try.prog ops Q (o :: rest) a w := by
  obtain ⟨i, hi, hz, hsz, hby⟩ := info32
  have hm : maxLen = 9223372036854775807 := rfl
  refine wpList_append_own w hgd s x _ ho base 22 i (.float .f32 0) 1 4 Try.underlying23 hi hz hsz hby rfl (by decide) v zs.length (fl zs) hs hown ⟨q, 0, none⟩ 1 c [.float .f32 z] hx rfl (fun j u hj => ?_) (fun u hu => ?_) (by omega) (by omega) hbase (fun v' w' h1 h2 _ => ?_)
  · cases j with
    | zero => simp at hj; subst hj; simpa [Addr.add] using hq
    | succ j => simp at hj
  · simp at hu; subst hu; rfl
  · refine h v' w' ?_ ((Below.refl base w).grown h2 hbase (fun k hk => (World.ownsRow.lt hown k hk).1))
    unfold Own
    simpa [fl] using h1
end Go.Proofs.Ytkbdidpodcclfaa

/- The laws' marks on lists of any length, and lists that a call made: a part of a block of its own. -/
namespace Go.Proofs.Ytkbdidpodcclfaa
open Go.RowKit
set_option linter.unusedVariables false

/-- from cell o on, block g holds the numbers zs, and may be written -/
def RowF (w : World) (g o : Nat) (zs : List Nat) : Prop := ∃ c : Array Value, w.heap[g]? = some (.cells c 22 (0, 0)) ∧ ∀ i, i < zs.length → c[o + i]? = some (.float .f32 (zs.getD i 0))
theorem RowF.cell {w : World} {g o i : Nat} {zs : List Nat} (h : RowF w g o zs) (hi : i < zs.length) : w.cell? ⟨g, o + i, none⟩ = some (.float .f32 (zs.getD i 0)) := by
  obtain ⟨c, hb, hc⟩ := h
  simp [World.cell?, hb, hc i hi]
theorem RowF.frozen {w : World} {g o : Nat} {zs : List Nat} (h : RowF w g o zs) (i : Nat) : w.frozen? ⟨g, i, none⟩ = false := by
  obtain ⟨c, hb, _⟩ := h
  simp [World.frozen?, hb]
theorem RowF.lt {w : World} {g o : Nat} {zs : List Nat} (h : RowF w g o zs) : g < w.heap.size := by
  obtain ⟨c, hb, _⟩ := h
  exact (Array.getElem?_eq_some_iff.1 hb).1
theorem RowF.of_block {w w' : World} {g o : Nat} {zs : List Nat} (h : RowF w g o zs) (e : w'.heap[g]? = w.heap[g]?) : RowF w' g o zs := by
  obtain ⟨c, hb, hc⟩ := h
  exact ⟨c, e.trans hb, hc⟩
theorem RowF.set {w : World} {g o : Nat} {zs : List Nat} (h : RowF w g o zs) (j x : Nat) (hj : j < zs.length) : RowF (w.setCell ⟨g, o + j, none⟩ (.float .f32 x)) g o (zs.set j x) := by
  obtain ⟨c, hb, hc⟩ := h
  refine ⟨c.setIfInBounds (o + j) (.float .f32 x), by simp [World.setCell, Array.getElem?_modify, hb], fun i hi => ?_⟩
  have hi' : i < zs.length := by simpa using hi
  rw [Array.getElem?_setIfInBounds]
  by_cases e : i = j
  · subst e
    have hlt : o + i < c.size := (Array.getElem?_eq_some_iff.1 (hc i hi')).1
    simp [hlt, hj, List.getD_eq_getElem?_getD]
  · rw [if_neg (by omega), hc i hi']
    simp [List.getD_eq_getElem?_getD, List.getElem?_set_ne (Ne.symm e)]
theorem RowF.of_row {w : World} {g o N : Nat} {f : Nat → Nat} {zs : List Nat} (h : w.rowIs g 22 N (fun i => .float .f32 (f i))) (ho : o + zs.length ≤ N) (hf : ∀ i, i < zs.length → f (o + i) = zs.getD i 0) : RowF w g o zs := by
  obtain ⟨c, hb, hn, hc⟩ := h
  exact ⟨c, hb, fun i hi => by simpa only [hf i hi] using hc (o + i) (by omega)⟩

theorem markL_any (g o n k c : Nat) (zs : List Nat) (w : World) (hr : RowF w g o zs) (hz : zs.length = n) (hn : n ≤ 1048576) (hk : k ≤ 1048576) :
    Calls Try.prog 26 #[.slice (some ⟨g, o, none⟩) n c, .int .i64 k] w fun e w' => e = .returned (.int .i64 ((k + n : Nat) : Int)) ∧ (∃ ys : List Nat, ys.length = n ∧ (∀ i, i < n → ys.getD i 0 = fb (k + i)) ∧ RowF w' g o ys) ∧ Onl g w w' := by
  have HR : Hid (∃ ys : List Nat, ys.length = n ∧ (∀ i, i < 0 → ys.getD i 0 = fb (k + i)) ∧ RowF w g o ys) := Lib.hid ⟨zs, hz, fun i hi => absurd hi (by omega), hr⟩
  clear hr hz
  go_enter Try.func26, Try.ntmps26
  go_wp2
  go_loopw [1, 5] (fun q i wr => ∃ j : Nat, j ≤ n ∧ i = .int .i64 j ∧ q = .int .i64 ((k + j : Nat) : Int) ∧ Hid (∃ ys : List Nat, ys.length = n ∧ (∀ i, i < j → ys.getD i 0 = fb (k + i)) ∧ RowF wr g o ys) ∧ Hid (Onl g w wr)) (fun _ i _ => n - (intOf i).toNat)
  case atStart => exact ⟨0, Nat.zero_le _, rfl, rfl, HR, Lib.hid (Onl.refl g w)⟩
  case round =>
    obtain ⟨j, hj, rfl, rfl, hrow, hon⟩ := hrel
    by_cases hlt : j < n
    · obtain ⟨ys, hy, hm, C⟩ := hrow.out
      have e3 : wr.cell? ⟨g, o + j, none⟩ = some (.float .f32 (ys.getD j 0)) := C.cell (by omega)
      have e4 : wr.frozen? ⟨g, o + j, none⟩ = false := C.frozen _
      have C := Lib.hid C
      have HY := Lib.hid hy
      have HM := Lib.hid hm
      clear hrow hy hm
      generalize ys.getD j 0 = old at *
      have hi : (0 : Int) ≤ (j : Int) := by omega
      have hi' : (j : Int) < (n : Int) := by omega
      go_wp2
      go_roundw
      case rel =>
        refine ⟨j + 1, by omega, by go_num, by go_num, Lib.hid ⟨ys.set j (fb (k + j)), by simpa using HY.out, fun i hi => ?_, ?_⟩, Lib.hid (Onl.setCell hon.out _ _)⟩
        · by_cases e : i = j
          · subst e
            have := HY.out
            simp [List.getD_eq_getElem?_getD, show i < ys.length by omega]
          · have := HM.out i (by omega)
            rw [← this]
            simp [List.getD_eq_getElem?_getD, List.getElem?_set_ne (Ne.symm e)]
        · have := C.out.set j (fb (k + j)) (by have := HY.out; omega)
          unfold fb at this ⊢
          simpa using this
      case measure => simp [intOf]; omega
    · have e := Lib.hid (show j = n by omega)
      go_wp2
      go_ret
      have := e.out
      subst this
      exact ⟨rfl, hrow.out, hon.out⟩

theorem heldL_any (g o n k c : Nat) (zs : List Nat) (w : World) (hr : RowF w g o zs) (hz : zs.length = n) (hk : k + n ≤ 499) (hf : ∀ i, i < n → zs.getD i 0 = fb (k + i)) :
    Calls Try.prog 30 #[.slice (some ⟨g, o, none⟩) n c, .int .i64 k] w fun e w' => e = .returned (.int .i64 ((k + n : Nat) : Int)) ∧ w = w' := by
  have HC : Hid (∀ i, i < n → w.cell? ⟨g, o + i, none⟩ = some (.float .f32 (fb (k + i)))) := Lib.hid (fun i hi => by rw [hr.cell (by omega), hf i hi])
  clear hr hz hf
  go_enter Try.func30, Try.ntmps30
  go_wp2
  go_loop [1, 5] (fun q i => ∃ j : Nat, j ≤ n ∧ i = .int .i64 j ∧ q = .int .i64 ((k + j : Nat) : Int)) (fun _ i => n - (intOf i).toNat)
  case atStart => exact ⟨0, Nat.zero_le _, rfl, rfl⟩
  case round =>
    obtain ⟨j, hj, rfl, rfl⟩ := hrel
    by_cases hlt : j < n
    · have z0 := HC.out j hlt
      have es := fb_self (k + j) (by omega)
      have en : (FloatKind.f32.format.order (fb (k + j)) (fb (k + j)) != some .eq) = false := by simpa using es
      unfold fb at z0 es en
      rw [Int.natCast_add] at z0 es en
      have hi : (0 : Int) ≤ (j : Int) := by omega
      have hi' : (j : Int) < (n : Int) := by omega
      go_wp2
      go_round
      case rel => exact ⟨j + 1, by omega, by go_num, by go_num⟩
      case measure => simp [intOf]; omega
    · have e := Lib.hid (show j = n by omega)
      go_wp2
      go_ret
      have := e.out
      subst this
      exact ⟨rfl, rfl⟩

theorem mark_mt (a : Option Addr) (c k : Nat) (w : World) (hk : k ≤ 400) : Calls Try.prog 26 #[.slice a 0 c, .int .i64 k] w fun e w' => e = .returned (.int .i64 k) ∧ w = w' := by
  go_enter Try.func26, Try.ntmps26
  go_wp2
  go_loop [1, 5] (fun q i => i = .int .i64 0 ∧ q = .int .i64 k) (fun _ _ => 0)
  case atStart => exact ⟨rfl, rfl⟩
  case round =>
    obtain ⟨rfl, rfl⟩ := hrel
    go_wp2
    go_ret
    exact ⟨rfl, rfl⟩
theorem held_mt (a : Option Addr) (c k : Nat) (w : World) (hk : k ≤ 400) : Calls Try.prog 30 #[.slice a 0 c, .int .i64 k] w fun e w' => e = .returned (.int .i64 k) ∧ w = w' := by
  go_enter Try.func30, Try.ntmps30
  go_wp2
  go_loop [1, 5] (fun q i => i = .int .i64 0 ∧ q = .int .i64 k) (fun _ _ => 0)
  case atStart => exact ⟨rfl, rfl⟩
  case round =>
    obtain ⟨rfl, rfl⟩ := hrel
    go_wp2
    go_ret
    exact ⟨rfl, rfl⟩

/-- the value v is a slice that reads as zs and lies in a block made since h: empty, or a part of such a block -/
def ORow (h : Nat) (w : World) (v : Value) (zs : List Nat) : Prop :=
  ((∃ a c, v = .slice a 0 c) ∧ zs = []) ∨ ∃ g o c, v = .slice (some ⟨g, o, none⟩) zs.length c ∧ h ≤ g ∧ RowF w g o zs

theorem ORow.frow {h : Nat} {w : World} {v : Value} {zs : List Nat} (H : ORow h w v zs) (hm : zs.length ≤ maxLen) : FRow w v zs := by
  rcases H with H | ⟨g, o, c, rfl, _, hr⟩
  · exact .inl H
  · exact .inr ⟨g, o, c, rfl, hm, fun i hi => hr.cell hi⟩
theorem ORow.shape {h : Nat} {w : World} {v : Value} {zs : List Nat} (H : ORow h w v zs) : ∃ a cap, v = .slice a zs.length cap := by
  rcases H with ⟨⟨a, c, rfl⟩, rfl⟩ | ⟨g, o, c, rfl, _⟩
  · exact ⟨_, _, rfl⟩
  · exact ⟨_, _, rfl⟩
theorem ORow.kept {h : Nat} {w w' : World} {v : Value} {zs : List Nat} (H : ORow h w v zs) (hb : Below w.heap.size w w') : ORow h w' v zs := by
  rcases H with H | ⟨g, o, c, rfl, hg, hr⟩
  · exact .inl H
  · exact .inr ⟨g, o, c, rfl, hg, hr.of_block (hb.block g hr.lt)⟩
theorem ORow.far {h p : Nat} {w w' : World} {v : Value} {zs : List Nat} (H : ORow h w v zs) (hb : Onl p w w') (hp : p < h) : ORow h w' v zs := by
  rcases H with H | ⟨g, o, c, rfl, hg, hr⟩
  · exact .inl H
  · exact .inr ⟨g, o, c, rfl, hg, hr.of_block (hb.block g (by omega))⟩
theorem ORow.mono {h h' : Nat} {w : World} {v : Value} {zs : List Nat} (H : ORow h w v zs) (hh : h' ≤ h) : ORow h' w v zs := by
  rcases H with H | ⟨g, o, c, rfl, hg, hr⟩
  · exact .inl H
  · exact .inr ⟨g, o, c, rfl, Nat.le_trans hh hg, hr⟩
theorem ORow.nil {h : Nat} {w : World} : ORow h w (.slice none 0 0) [] := .inl ⟨⟨_, _, rfl⟩, rfl⟩
theorem Own.orow {w : World} {base : Nat} {v : Value} {zs : List Nat} (h : Own w base v zs) : ORow base w v zs := by
  obtain ⟨h1, h2⟩ := h
  rcases h2 with ⟨rfl, hn⟩ | ⟨g, cap, cur, e, hg, hc, _, _, hs, h3⟩
  · have : zs = [] := List.length_eq_zero_iff.1 hn
    subst this
    exact .nil
  · refine .inr ⟨g, 0, cap, e, hg, cur, hc, fun i hi => ?_⟩
    have : (fl zs)[i]? = some (.float .f32 (zs.getD i 0)) := by simp [fl, hi, List.getD_eq_getElem?_getD]
    rw [← h3, List.getElem?_take, if_pos (by omega)] at this
    rw [Nat.zero_add]
    simpa using this

/-- the marks 1, 2 and so on -/
def mks (n : Nat) : List Nat := (List.range n).map fun i => fb (1 + i)
theorem mks_length (n : Nat) : (mks n).length = n := by simp [mks]
theorem mks_getD (n i : Nat) (hi : i < n) : (mks n).getD i 0 = fb (1 + i) := by simp [mks, hi, List.getD_eq_getElem?_getD]
theorem mks_of {n : Nat} {ys : List Nat} (hl : ys.length = n) (h : ∀ i, i < n → ys.getD i 0 = fb (1 + i)) : ys = mks n := by
  refine List.ext_getElem (by rw [hl, mks_length]) fun i h1 h2 => ?_
  have := h i (by omega)
  simp only [mks, List.getElem_map, List.getElem_range]
  rw [← this]
  simp [List.getD_eq_getElem?_getD, h1]

theorem markO {h : Nat} {v : Value} {zs : List Nat} {w : World} (H : ORow h w v zs) (hl : zs.length ≤ 400) :
    Calls Try.prog 26 #[v, .int .i64 1] w fun e w' => e = .returned (.int .i64 ((1 + zs.length : Nat) : Int)) ∧ ORow h w' v (mks zs.length) ∧ (h ≤ w.heap.size → Below h w w') := by
  rcases H with ⟨⟨a, c, rfl⟩, rfl⟩ | ⟨g, o, c, rfl, hg, hr⟩
  · refine (mark_mt a c 1 w (by omega)).mono ?_
    rintro e w' ⟨rfl, rfl⟩
    exact ⟨rfl, .inl ⟨⟨_, _, rfl⟩, rfl⟩, fun _ => Below.refl _ _⟩
  · refine (markL_any g o zs.length 1 c zs w hr rfl (by omega) (by omega)).mono ?_
    rintro e w' ⟨rfl, ⟨ys, hy, hf, hr'⟩, hon⟩
    rw [mks_of hy hf] at hr'
    exact ⟨rfl, .inr ⟨g, o, c, by rw [mks_length], hg, hr'⟩, fun _ => hon.below hg⟩

theorem heldO {h n : Nat} {v : Value} {w : World} (H : ORow h w v (mks n)) (hl : n ≤ 400) :
    Calls Try.prog 30 #[v, .int .i64 1] w fun e w' => e = .returned (.int .i64 ((1 + n : Nat) : Int)) ∧ w = w' := by
  rcases H with ⟨⟨a, c, rfl⟩, hz⟩ | ⟨g, o, c, rfl, hg, hr⟩
  · have : n = 0 := by have := congrArg List.length hz; rw [mks_length] at this; simpa using this
    subst this
    exact held_mt a c 1 w (by omega)
  · rw [mks_length]
    exact heldL_any g o n 1 c (mks n) w hr (mks_length n) (by omega) (fun i hi => mks_getD _ _ hi)

/-- marks over a copy of an argument: only its block turns -/
theorem markX (p : Nat) (zs : List Nat) (w : World) (H : Cells w p (fl zs)) (hl : zs.length ≤ 1048576) :
    Calls Try.prog 26 #[sl p zs, .int .i64 1] w fun e w' => e = .returned (.int .i64 ((1 + zs.length : Nat) : Int)) ∧ Onl p w w' := by
  have HC : Hid (∃ ys : List Nat, ys.length = zs.length ∧ Cells w p (fl ys)) := Lib.hid ⟨zs, rfl, H⟩
  clear H
  unfold sl
  generalize zs.length = n at *
  go_enter Try.func26, Try.ntmps26
  go_wp2
  go_loopw [1, 5] (fun q i wr => ∃ j : Nat, j ≤ n ∧ i = .int .i64 j ∧ q = .int .i64 ((1 + j : Nat) : Int) ∧ Hid (∃ ys : List Nat, ys.length = n ∧ Cells wr p (fl ys)) ∧ Hid (Onl p w wr)) (fun _ i _ => n - (intOf i).toNat)
  case atStart => exact ⟨0, Nat.zero_le _, rfl, rfl, HC, Lib.hid (Onl.refl p w)⟩
  case round =>
    obtain ⟨j, hj, rfl, rfl, hrow, hon⟩ := hrel
    by_cases hlt : j < n
    · obtain ⟨ys, hy, C⟩ := hrow.out
      have hjy : j < ys.length := by omega
      have e3 : wr.cell? ⟨p, j, none⟩ = some (.float .f32 (ys.getD j 0)) := C.at j (by simp [fl, hjy, List.getD_eq_getElem?_getD])
      have e4 : wr.frozen? ⟨p, j, none⟩ = false := C.fz j
      have C := Lib.hid C
      have HY := Lib.hid hy
      clear hrow hy
      generalize ys.getD j 0 = old at *
      have hi : (0 : Int) ≤ (j : Int) := by omega
      have hi' : (j : Int) < (n : Int) := by omega
      go_wp2
      go_roundw
      case rel =>
        refine ⟨j + 1, by omega, by go_num, by go_num, Lib.hid ⟨ys.set j (floatOfInt .f32 ((1 + j : Nat) : Int)), by simpa using HY.out, ?_⟩, Lib.hid (Onl.setCell hon.out _ _)⟩
        have := C.out.set j (by simpa [fl] using hjy) (.float .f32 (floatOfInt .f32 ((1 + j : Nat) : Int)))
        rw [show fl (ys.set j (floatOfInt .f32 ((1 + j : Nat) : Int))) = (fl ys).set j (.float .f32 (floatOfInt .f32 ((1 + j : Nat) : Int))) from by simp [fl, List.map_set]]
        simpa using this
      case measure => simp [intOf]; omega
    · have e := Lib.hid (show j = n by omega)
      go_wp2
      go_ret
      have := e.out
      subst this
      exact ⟨rfl, hon.out⟩
end Go.Proofs.Ytkbdidpodcclfaa

/- Lists of numbers of a call's own, each in a range of blocks; the laws' marks from any number on. -/
namespace Go.Proofs.Ytkbdidpodcclfaa
open Go.RowKit
set_option linter.unusedVariables false

/-- the value v is a slice that reads as zs: empty, or in a block from lo to below hi -/
def OIn (lo hi : Nat) (w : World) (v : Value) (zs : List Nat) : Prop :=
  ((∃ a c, v = .slice a 0 c) ∧ zs = []) ∨ ∃ g o c, v = .slice (some ⟨g, o, none⟩) zs.length c ∧ lo ≤ g ∧ g < hi ∧ RowF w g o zs
abbrev Rg (lo hi : Nat) : Nat → Prop := fun j => lo ≤ j ∧ j < hi
theorem OIn.of {lo : Nat} {w : World} {v : Value} {zs : List Nat} (H : ORow lo w v zs) : OIn lo w.heap.size w v zs := by
  rcases H with H | ⟨g, o, c, rfl, hg, hr⟩
  · exact .inl H
  · exact .inr ⟨g, o, c, rfl, hg, hr.lt, hr⟩
theorem OIn.tur {lo hi : Nat} {S : Nat → Prop} {w w' : World} {v : Value} {zs : List Nat} (H : OIn lo hi w v zs) (t : Tur S w w') (hS : ∀ j, lo ≤ j → j < hi → ¬ S j) : OIn lo hi w' v zs := by
  rcases H with H | ⟨g, o, c, rfl, hg, hh, hr⟩
  · exact .inl H
  · exact .inr ⟨g, o, c, rfl, hg, hh, hr.of_block (t.block g hr.lt (hS g hg hh))⟩
theorem OIn.kept {lo hi : Nat} {w w' : World} {v : Value} {zs : List Nat} (H : OIn lo hi w v zs) (hb : Below w.heap.size w w') : OIn lo hi w' v zs :=
  H.tur (S := fun _ => False) (Tur.of_below hb) (fun _ _ _ h => h)
theorem OIn.frow {lo hi : Nat} {w : World} {v : Value} {zs : List Nat} (H : OIn lo hi w v zs) (hm : zs.length ≤ maxLen) : FRow w v zs := by
  rcases H with H | ⟨g, o, c, rfl, _, _, hr⟩
  · exact .inl H
  · exact .inr ⟨g, o, c, rfl, hm, fun i hi => hr.cell hi⟩
theorem OIn.shape {lo hi : Nat} {w : World} {v : Value} {zs : List Nat} (H : OIn lo hi w v zs) : ∃ a cap, v = .slice a zs.length cap := by
  rcases H with ⟨⟨a, c, rfl⟩, rfl⟩ | ⟨g, o, c, rfl, _⟩
  · exact ⟨_, _, rfl⟩
  · exact ⟨_, _, rfl⟩
/-- the marks k, k + 1 and so on -/
def mksK (k n : Nat) : List Nat := (List.range n).map fun i => fb (k + i)
theorem mksK_length (k n : Nat) : (mksK k n).length = n := by simp [mksK]
theorem mksK_getD (k n i : Nat) (hi : i < n) : (mksK k n).getD i 0 = fb (k + i) := by simp [mksK, hi, List.getD_eq_getElem?_getD]
theorem mksK_of {k n : Nat} {ys : List Nat} (hl : ys.length = n) (h : ∀ i, i < n → ys.getD i 0 = fb (k + i)) : ys = mksK k n := by
  refine List.ext_getElem (by rw [hl, mksK_length]) fun i h1 h2 => ?_
  have := h i (by omega)
  simp only [mksK, List.getElem_map, List.getElem_range]
  rw [← this]
  simp [List.getD_eq_getElem?_getD, h1]
theorem markIn {lo hi k : Nat} {v : Value} {zs : List Nat} {w : World} (H : OIn lo hi w v zs) (hl : zs.length ≤ 400) (hk : k ≤ 400) :
    Calls Try.prog 26 #[v, .int .i64 k] w fun e w' => e = .returned (.int .i64 ((k + zs.length : Nat) : Int)) ∧ OIn lo hi w' v (mksK k zs.length) ∧ Tur (Rg lo hi) w w' := by
  rcases H with ⟨⟨a, c, rfl⟩, rfl⟩ | ⟨g, o, c, rfl, hg, hh, hr⟩
  · refine (mark_mt a c k w hk).mono ?_
    rintro e w' ⟨rfl, rfl⟩
    exact ⟨rfl, .inl ⟨⟨_, _, rfl⟩, rfl⟩, Tur.of_below (Below.refl _ _)⟩
  · refine (markL_any g o zs.length k c zs w hr rfl (by omega) (by omega)).mono ?_
    rintro e w' ⟨rfl, ⟨ys, hy, hf, hr'⟩, hon⟩
    rw [mksK_of hy hf] at hr'
    exact ⟨rfl, .inr ⟨g, o, c, by rw [mksK_length], hg, hh, hr'⟩, Tur.of_onl hon ⟨hg, hh⟩⟩
theorem heldIn {lo hi k n : Nat} {v : Value} {w : World} (H : OIn lo hi w v (mksK k n)) (hl : k + n ≤ 400) :
    Calls Try.prog 30 #[v, .int .i64 k] w fun e w' => e = .returned (.int .i64 ((k + n : Nat) : Int)) ∧ w = w' := by
  rcases H with ⟨⟨a, c, rfl⟩, hz⟩ | ⟨g, o, c, rfl, hg, hh, hr⟩
  · have : n = 0 := by have := congrArg List.length hz; rw [mksK_length] at this; simpa using this
    subst this
    exact held_mt a c k w (by omega)
  · rw [mksK_length]
    exact heldL_any g o n k c (mksK k n) w hr (mksK_length k n) (by omega) (fun i hi => mksK_getD _ _ _ hi)
end Go.Proofs.Ytkbdidpodcclfaa

/- Whether a number is finite: the code's own functions. -/
namespace Go.Proofs.Ytkbdidpodcclfaa
open Go.RowKit

theorem abs_any (r : Nat) (w : World) (hr : (Lit.float .f64 r).wf = true) : Calls Try.prog 114 #[.float .f64 r] w fun e w' => e = .returned (.float .f64 (r % 9223372036854775808)) ∧ w = w' := by
  have e := abs_bits r (wf64 hr)
  go_enter Try.func114, Try.ntmps114
  go_wp2
  go_ret
  exact ⟨by simp, rfl⟩

theorem isFiniteLong_any (r : Nat) (w : World) (hr : (Lit.float .f64 r).wf = true) :
    Calls Try.prog 101 #[.float .f64 r] w fun e w' => e = .returned (.bool (fin .f64 r)) ∧ w = w' := by
  have ho := order_self (k := .f64) (x := r)
  cases hn : nn .f64 r
  · rw [hn] at ho; simp only [Bool.false_eq_true, if_false] at ho
    have hg := abs_gt r hn
    go_enter Try.func101, Try.ntmps101
    go_wp2_with (first | (go_at_call 114; refine (abs_any _ _ hr).mono ?_; rintro e w' ⟨rfl, rfl⟩) | go_in)
    go_ret
    exact ⟨by simp, rfl⟩
  · rw [hn] at ho; simp only [if_true] at ho
    have hf := fin_nan hn
    go_enter Try.func101, Try.ntmps101
    go_wp2_with go_in
    go_ret
    exact ⟨by simp [hf], rfl⟩

theorem isFiniteLong_up {a r : Nat} (w : World) (h : UR a r) :
    Calls Try.prog 101 #[.float .f64 r] w fun e w' => e = .returned (.bool (fin .f32 a)) ∧ w = w' :=
  (isFiniteLong_any r w h.2).mono fun _ _ ⟨he, hw⟩ => ⟨by rw [he, fin_up h], hw⟩

theorem implFinite_any (a : Nat) (w : World) : Calls Try.prog 78 #[.float .f32 a] w (Bol (fin .f32 a) w) := by
  go_enter Try.func78, Try.ntmps78
  go_wp2_with (first | (refine wpList_up rfl Try.underlying22 Try.underlying55 _ rfl _ rfl ?_; intro _ _ _) | (go_at_call 101; refine (isFiniteLong_up _ (by assumption)).mono ?_; rintro e w' ⟨rfl, rfl⟩))
  go_ret
  exact ⟨rfl, _, rfl⟩

theorem specFinite_any (a : Nat) (w : World) : Calls Try.prog 70 #[.float .f32 a] w (Bol (fin .f32 a) w) := by
  go_enter Try.func70, Try.ntmps70
  go_wp2_with (refine wpList_farith rfl _ _ _ _ _ rfl rfl _ _ _ rfl rfl ?_; intro _ _ _)
  go_ret
  rename_i h
  exact ⟨congrArg (fun b => Ending.returned (.bool b)) (sub_zero h), _, rfl⟩
end Go.Proofs.Ytkbdidpodcclfaa

/- Numbers that are finite and greater than 0; whether two numbers are the same. -/
namespace Go.Proofs.Ytkbdidpodcclfaa
open Go.RowKit

/-- greater than 0 -/
def gt0 (a : Nat) : Bool := FloatKind.f32.format.order a 0 == some .gt
/-- finite and greater than 0 -/
def pos (a : Nat) : Bool := fin .f32 a && gt0 a

/-- a bool, and nothing that was there has turned -/
def BolB (b : Bool) (w : World) (e : Ending) (w' : World) : Prop := e = .returned (.bool b) ∧ Below w.heap.size w w'
theorem Bol.below {b : Bool} {w : World} {e : Ending} {w' : World} (h : Bol b w e w') : BolB b w e w' := by
  obtain ⟨he, n, rfl⟩ := h
  exact ⟨he, below_drewN (Below.refl _ _) n⟩

theorem results_cell1 {fn : Func} {p : Tmp} {ty : TypeId} (h : fn.results = #[.cell p ty]) (tmps : Array Value) (P : Program) (w : World) :
    (results fn tmps).run P w = ((asAddr (tmps.getD p undef)).run P w).andThen fun a w₁ => (loadVar ty a).run P w₁ := by
  simp only [results, h]
  simp [Sem.run_bind, Result.andThen]


theorem ret_bb {x b : Bool} (h : x = b) : Ending.returned (.bool b) = Ending.returned (.bool x) := by rw [h]
end Go.Proofs.Ytkbdidpodcclfaa

/- Numbers that are finite and greater than 0; whether two numbers are the same. -/
namespace Go.Proofs.Ytkbdidpodcclfaa
open Go.RowKit

theorem specAbove_any (a : Nat) (w : World) : Calls Try.prog 61 #[.float .f32 a] w (Bol (pos a) w) := by
  cases hf : fin .f32 a
  · go_enter Try.func61, Try.ntmps61
    go_wp2_with (go_at_call 70; refine (specFinite_any _ _).mono ?_; rw [hf]; rintro e w' ⟨rfl, n, rfl⟩)
    go_ret
    exact ⟨by simp [pos, hf], _, rfl⟩
  · go_enter Try.func61, Try.ntmps61
    go_wp2_with (go_at_call 70; refine (specFinite_any _ _).mono ?_; rw [hf]; rintro e w' ⟨rfl, n, rfl⟩)
    go_ret
    exact ⟨by simp [pos, hf, gt0], _, rfl⟩

theorem implPos_any (a : Nat) (w : World) : Calls Try.prog 77 #[.float .f32 a] w (Bol (pos a) w) := by
  cases hf : fin .f32 a
  · go_enter Try.func77, Try.ntmps77
    go_wp2_with (go_at_call 78; refine (implFinite_any _ _).mono ?_; rw [hf]; rintro e w' ⟨rfl, n, rfl⟩)
    go_ret
    exact ⟨by simp [pos, hf], _, rfl⟩
  · go_enter Try.func77, Try.ntmps77
    go_wp2_with (go_at_call 78; refine (implFinite_any _ _).mono ?_; rw [hf]; rintro e w' ⟨rfl, n, rfl⟩)
    go_ret
    exact ⟨by simp [pos, hf, gt0], _, rfl⟩
end Go.Proofs.Ytkbdidpodcclfaa

/- Copies of rods, their sizes, and the comparison of two rods. -/
namespace Go.Proofs.Ytkbdidpodcclfaa
open Go.RowKit

/-- the four blocks of a rod -/
structure RodAt (w : World) (p0 p1 p2 p3 : Nat) (r : RL) : Prop where
  W : Cells w p0 (fl r.W)
  E : Cells w p1 (fl r.E)
  H : Cells w p2 (fl r.H)
  T : Cells w p3 (fl r.T)
  o01 : p0 < p1
  o12 : p1 < p2
  o23 : p2 < p3
theorem RodAt.kept {w w' : World} {p0 p1 p2 p3 : Nat} {r : RL} (h : RodAt w p0 p1 p2 p3 r) (hb : Below w.heap.size w w') : RodAt w' p0 p1 p2 p3 r :=
  ⟨h.W.kept hb, h.E.kept hb, h.H.kept hb, h.T.kept hb, h.o01, h.o12, h.o23⟩
theorem RodAt.row {w : World} {p0 p1 p2 p3 : Nat} {r : RL} (h : RodAt w p0 p1 p2 p3 r) (hl : r.size ≤ 1048576) : RRow w (sl p0 r.W) (sl p1 r.E) (sl p2 r.H) (sl p3 r.T) r := by
  unfold RL.size at hl
  have hm : maxLen = 9223372036854775807 := rfl
  exact ⟨.of_cells h.W (by omega), .of_cells h.E (by omega), .of_cells h.H (by omega), .of_cells h.T (by omega)⟩
/-- a rod, by value, that reads so, in blocks of its own -/
def NewRod (r : RL) (w : World) (e : Ending) (w' : World) : Prop :=
  ∃ p0 p1 p2 p3, e = .returned (.agg #[sl p0 r.W, sl p1 r.E, sl p2 r.H, sl p3 r.T]) ∧ w.heap.size ≤ p0 ∧ RodAt w' p0 p1 p2 p3 r ∧ Below w.heap.size w w'

set_option maxHeartbeats 1600000 in
theorem toRod_any (a b c d : Value) (r : RL) (w : World) (h : RRow w a b c d r) (hl : r.size ≤ 1048576) : Calls Try.prog 18 #[.agg #[a, b, c, d]] w (NewRod r w) := by
  obtain ⟨hW, hE, hH, hT⟩ := h
  have HW := Lib.hid hW
  have HE := Lib.hid hE
  have HH := Lib.hid hH
  have HT := Lib.hid hT
  clear hW hE hH hT
  have lW : Hid (r.W.length ≤ 1048576) := Lib.hid (by unfold RL.size at hl; omega)
  have lE : Hid (r.E.length ≤ 1048576) := Lib.hid (by unfold RL.size at hl; omega)
  have lH : Hid (r.H.length ≤ 1048576) := Lib.hid (by unfold RL.size at hl; omega)
  have lT : Hid (r.T.length ≤ 1048576) := Lib.hid (by unfold RL.size at hl; omega)
  clear hl
  have A := Lib.hid (((Cells.made w [a, b, c, d] 31).al (.cells [Value.slice none 0 0, .slice none 0 0, .slice none 0 0, .slice none 0 0].toArray 25)).al (.cells [Value.slice none 0 0, .slice none 0 0, .slice none 0 0, .slice none 0 0].toArray 25))
  have Y := (Cells.made (w.alloc (.cells [a, b, c, d].toArray 31)) [.slice none 0 0, .slice none 0 0, .slice none 0 0, .slice none 0 0] 25).al (.cells [Value.slice none 0 0, .slice none 0 0, .slice none 0 0, .slice none 0 0].toArray 25)
  rw [show (w.alloc (.cells [a, b, c, d].toArray 31)).heap.size = w.heap.size + 1 from by simp] at Y
  have X := Cells.made ((w.alloc (.cells [a, b, c, d].toArray 31)).alloc (.cells [Value.slice none 0 0, .slice none 0 0, .slice none 0 0, .slice none 0 0].toArray 25)) [.slice none 0 0, .slice none 0 0, .slice none 0 0, .slice none 0 0] 25
  rw [show ((w.alloc (.cells [a, b, c, d].toArray 31)).alloc (.cells [Value.slice none 0 0, .slice none 0 0, .slice none 0 0, .slice none 0 0].toArray 25)).heap.size = w.heap.size + 1 + 1 from by simp] at X
  have Y := Lib.hid Y
  have X := Lib.hid X
  have Bw := Lib.hid (below_al3 w (.cells [a, b, c, d].toArray 31) (.cells [Value.slice none 0 0, .slice none 0 0, .slice none 0 0, .slice none 0 0].toArray 25) (.cells [Value.slice none 0 0, .slice none 0 0, .slice none 0 0, .slice none 0 0].toArray 25))
  go_enter Try.func18, Try.ntmps18
  go_wp2_with fail
  refine (toF_sl _ r.W _ (HW.out.below Bw.out) lW.out).mono ?_
  rintro _ w1 ⟨p0, rfl, hp, C0, hb⟩
  have q0 : Hid (w.heap.size + 3 ≤ p0) := Lib.hid (by simpa using hp)
  have A := Lib.hid (A.out.kept hb)
  have X := Lib.hid (X.out.kept hb)
  have Y := Lib.hid (Y.out.kept hb)
  have Bw := Lib.hid (below_step Bw.out hb)
  have C0 := Lib.hid C0
  clear hb hp
  have c0 := A.out.at 0 rfl
  have c1 := A.out.at 1 rfl
  have c2 := A.out.at 2 rfl
  have c3 := A.out.at 3 rfl
  have e0 := X.out.at 0 rfl
  have e1 := X.out.at 1 rfl
  have e2 := X.out.at 2 rfl
  have e3 := X.out.at 3 rfl
  have ef := X.out.fz
  go_wp2_with fail
  have Bw := Lib.hid (Bw.out.setCell (p := ⟨w.heap.size + 1 + 1, 0, none⟩) (by simp; omega) (sl p0 r.W))
  refine (toF_sl _ r.E _ (HE.out.below Bw.out) lE.out).mono ?_
  rintro _ w2 ⟨p1, rfl, hp, C1, hb⟩
  have q1 : Hid (p0 < p1) := Lib.hid (Nat.lt_of_lt_of_le C0.out.lt (by simpa using hp))
  have A := Lib.hid ((A.out.far (by omega) 0 (sl p0 r.W)).kept hb)
  have X := Lib.hid ((X.out.set 0 (by simp) (sl p0 r.W)).kept hb)
  have Y := Lib.hid ((Y.out.far (by omega) 0 (sl p0 r.W)).kept hb)
  have Bw := Lib.hid (below_step Bw.out hb)
  have C0 := Lib.hid ((C0.out.far (by have := q0.out; omega) 0 (sl p0 r.W)).kept hb)
  have C1 := Lib.hid C1
  clear hb hp
  have c0 := A.out.at 0 rfl
  have c1 := A.out.at 1 rfl
  have c2 := A.out.at 2 rfl
  have c3 := A.out.at 3 rfl
  have e0 := X.out.at 0 rfl
  have e1 := X.out.at 1 rfl
  have e2 := X.out.at 2 rfl
  have e3 := X.out.at 3 rfl
  have ef := X.out.fz
  go_wp2_with fail
  have Bw := Lib.hid (Bw.out.setCell (p := ⟨w.heap.size + 1 + 1, 1, none⟩) (by simp; omega) (sl p1 r.E))
  refine (toF_sl _ r.H _ (HH.out.below Bw.out) lH.out).mono ?_
  rintro _ w3 ⟨p2, rfl, hp, C2, hb⟩
  have q2 : Hid (p1 < p2) := Lib.hid (Nat.lt_of_lt_of_le C1.out.lt (by simpa using hp))
  have A := Lib.hid ((A.out.far (by omega) 1 (sl p1 r.E)).kept hb)
  have X := Lib.hid ((X.out.set 1 (by simp) (sl p1 r.E)).kept hb)
  have Y := Lib.hid ((Y.out.far (by omega) 1 (sl p1 r.E)).kept hb)
  have Bw := Lib.hid (below_step Bw.out hb)
  have C0 := Lib.hid ((C0.out.far (by have := q0.out; have := q1.out; omega) 1 (sl p1 r.E)).kept hb)
  have C1 := Lib.hid ((C1.out.far (by have := q0.out; have := q1.out; omega) 1 (sl p1 r.E)).kept hb)
  have C2 := Lib.hid C2
  clear hb hp
  have c0 := A.out.at 0 rfl
  have c1 := A.out.at 1 rfl
  have c2 := A.out.at 2 rfl
  have c3 := A.out.at 3 rfl
  have e0 := X.out.at 0 rfl
  have e1 := X.out.at 1 rfl
  have e2 := X.out.at 2 rfl
  have e3 := X.out.at 3 rfl
  have ef := X.out.fz
  go_wp2_with fail
  have Bw := Lib.hid (Bw.out.setCell (p := ⟨w.heap.size + 1 + 1, 2, none⟩) (by simp; omega) (sl p2 r.H))
  refine (toF_sl _ r.T _ (HT.out.below Bw.out) lT.out).mono ?_
  rintro _ w4 ⟨p3, rfl, hp, C3, hb⟩
  have q3 : Hid (p2 < p3) := Lib.hid (Nat.lt_of_lt_of_le C2.out.lt (by simpa using hp))
  have A := Lib.hid ((A.out.far (by omega) 2 (sl p2 r.H)).kept hb)
  have X := Lib.hid ((X.out.set 2 (by simp) (sl p2 r.H)).kept hb)
  have Y := Lib.hid ((Y.out.far (by omega) 2 (sl p2 r.H)).kept hb)
  have Bw := Lib.hid (below_step Bw.out hb)
  have C0 := Lib.hid ((C0.out.far (by have := q0.out; have := q1.out; have := q2.out; omega) 2 (sl p2 r.H)).kept hb)
  have C1 := Lib.hid ((C1.out.far (by have := q0.out; have := q1.out; have := q2.out; omega) 2 (sl p2 r.H)).kept hb)
  have C2 := Lib.hid ((C2.out.far (by have := q0.out; have := q1.out; have := q2.out; omega) 2 (sl p2 r.H)).kept hb)
  have C3 := Lib.hid C3
  clear hb hp
  have c0 := A.out.at 0 rfl
  have c1 := A.out.at 1 rfl
  have c2 := A.out.at 2 rfl
  have c3 := A.out.at 3 rfl
  have e0 := X.out.at 0 rfl
  have e1 := X.out.at 1 rfl
  have e2 := X.out.at 2 rfl
  have e3 := X.out.at 3 rfl
  have ef := X.out.fz
  have g0 := Y.out.at 0 rfl
  have g1 := Y.out.at 1 rfl
  have g2 := Y.out.at 2 rfl
  have g3 := Y.out.at 3 rfl
  have gf := Y.out.fz
  go_wp2
  have q0 := q0.out
  have q1 := q1.out
  have q2 := q2.out
  have q3 := q3.out
  refine bodyPost_ret (v := .agg #[sl p0 r.W, sl p1 r.E, sl p2 r.H, sl p3 r.T]) ?_ rfl ?_
  · rw [results_cell1 rfl]
    go_simp
  · exact ⟨p0, p1, p2, p3, rfl, by omega, ⟨((((C0.out.far (by omega) _ _).far (by omega) _ _).far (by omega) _ _).far (by omega) _ _).far (by omega) _ _, ((((C1.out.far (by omega) _ _).far (by omega) _ _).far (by omega) _ _).far (by omega) _ _).far (by omega) _ _, ((((C2.out.far (by omega) _ _).far (by omega) _ _).far (by omega) _ _).far (by omega) _ _).far (by omega) _ _, ((((C3.out.far (by omega) _ _).far (by omega) _ _).far (by omega) _ _).far (by omega) _ _).far (by omega) _ _, by omega, by omega, by omega⟩, ((((Bw.out.setCell (by simp; omega) _).setCell (by simp) _).setCell (by simp) _).setCell (by simp) _).setCell (by simp) _⟩

/-- two rods that are the same -/
structure SameRL (r r' : RL) : Prop where
  W : SameList r.W r'.W
  E : SameList r.E r'.E
  H : SameList r.H r'.H
  T : SameList r.T r'.T
theorem SameRL.refl (r : RL) : SameRL r r := ⟨.refl _, .refl _, .refl _, .refl _⟩

theorem eqRod_any (a b c d a' b' c' d' : Value) (r r' : RL) (w : World) (h : RRow w a b c d r) (h' : RRow w a' b' c' d' r') (hs : SameRL r r') :
    Calls Try.prog 13 #[.agg #[a, b, c, d], .agg #[a', b', c', d']] w (YesB w) := by
  have R := Lib.hid (fun w1 (hb : Below w.heap.size w w1) => h.below hb)
  have R' := Lib.hid (fun w1 (hb : Below w.heap.size w w1) => h'.below hb)
  have S := Lib.hid hs
  clear h h' hs
  go_enter Try.func13, Try.ntmps13
  go_wp2_with fail
  refine (eqF_any a a' _ _ _ (R.out _ (by first | exact below_al2 _ _ _ | exact below_drewN (below_al2 _ _ _) _)).W (R'.out _ (by first | exact below_al2 _ _ _ | exact below_drewN (below_al2 _ _ _) _)).W S.out.W).mono ?_
  rintro _ _ ⟨rfl, n1, rfl⟩
  go_wp2_with fail
  refine (eqF_any b b' _ _ _ (R.out _ (by first | exact below_al2 _ _ _ | exact below_drewN (below_al2 _ _ _) _)).E (R'.out _ (by first | exact below_al2 _ _ _ | exact below_drewN (below_al2 _ _ _) _)).E S.out.E).mono ?_
  rintro _ _ ⟨rfl, n2, rfl⟩
  go_wp2_with fail
  refine (eqF_any c c' _ _ _ (R.out _ (by first | exact below_al2 _ _ _ | exact below_drewN (below_al2 _ _ _) _)).H (R'.out _ (by first | exact below_al2 _ _ _ | exact below_drewN (below_al2 _ _ _) _)).H S.out.H).mono ?_
  rintro _ _ ⟨rfl, n3, rfl⟩
  go_wp2_with fail
  refine (eqF_any d d' _ _ _ (R.out _ (by first | exact below_al2 _ _ _ | exact below_drewN (below_al2 _ _ _) _)).T (R'.out _ (by first | exact below_al2 _ _ _ | exact below_drewN (below_al2 _ _ _) _)).T S.out.T).mono ?_
  rintro _ _ ⟨rfl, n4, rfl⟩
  go_wp2
  go_ret
  exact ⟨rfl, (by first | exact below_al2 _ _ _ | exact below_drewN (below_al2 _ _ _) _)⟩

theorem szRod_fit (a b c d : Value) (r : RL) (left : Nat) (w : World) (h : RRow w a b c d r) (hl : r.size ≤ left) (hm : left ≤ 1048576) :
    Calls Try.prog 16 #[.agg #[a, b, c, d], .int .i64 left] w fun e w' => e = .returned (.int .i64 ((left - r.size : Nat) : Int)) ∧ Below w.heap.size w w' := by
  obtain ⟨a1, a2, rfl⟩ := h.W.shape
  obtain ⟨b1, b2, rfl⟩ := h.E.shape
  obtain ⟨c1, c2, rfl⟩ := h.H.shape
  obtain ⟨d1, d2, rfl⟩ := h.T.shape
  clear h
  have e : Hid (left - r.W.length - r.E.length - r.H.length - r.T.length = left - r.size) := Lib.hid (by unfold RL.size; omega)
  unfold RL.size at hl
  have L1 : Hid (r.W.length ≤ left) := Lib.hid (by omega)
  have L2 : Hid (r.E.length ≤ left - r.W.length) := Lib.hid (by omega)
  have L3 : Hid (r.H.length ≤ left - r.W.length - r.E.length) := Lib.hid (by omega)
  have L4 : Hid (r.T.length ≤ left - r.W.length - r.E.length - r.H.length) := Lib.hid (by omega)
  have M := Lib.hid hm
  clear hl hm
  go_enter Try.func16, Try.ntmps16
  go_wp2_with fail
  refine (sz32_fit _ _ _ left _ L1.out M.out).mono ?_
  rintro _ _ ⟨rfl, rfl⟩
  go_wp2_with fail
  refine (sz32_fit _ _ _ (left - r.W.length) _ L2.out (Nat.le_trans (Nat.sub_le _ _) M.out)).mono ?_
  rintro _ _ ⟨rfl, rfl⟩
  go_wp2_with fail
  refine (sz32_fit _ _ _ (left - r.W.length - r.E.length) _ L3.out (by have := M.out; omega)).mono ?_
  rintro _ _ ⟨rfl, rfl⟩
  go_wp2_with fail
  refine (sz32_fit _ _ _ (left - r.W.length - r.E.length - r.H.length) _ L4.out (by have := M.out; omega)).mono ?_
  rintro _ _ ⟨rfl, rfl⟩
  go_wp2
  go_ret
  exact ⟨by rw [← e.out]; rfl, below_al1 _ _⟩

theorem szRod_over (a b c d : Value) (r : RL) (left : Nat) (w : World) (h : RRow w a b c d r) (hl : left < r.size) (hm : left ≤ 1048576) :
    Calls Try.prog 16 #[.agg #[a, b, c, d], .int .i64 left] w fun e w' => e = .returned (.int .i64 (-1)) ∧ Below w.heap.size w w' := by
  have N1 := Lib.hid h.W.len
  have N2 := Lib.hid h.E.len
  have N3 := Lib.hid h.H.len
  have N4 := Lib.hid h.T.len
  obtain ⟨a1, a2, rfl⟩ := h.W.shape
  obtain ⟨b1, b2, rfl⟩ := h.E.shape
  obtain ⟨c1, c2, rfl⟩ := h.H.shape
  obtain ⟨d1, d2, rfl⟩ := h.T.shape
  clear h
  unfold RL.size at hl
  by_cases g1 : r.W.length ≤ left
  · by_cases g2 : r.E.length ≤ left - r.W.length
    · by_cases g3 : r.H.length ≤ left - r.W.length - r.E.length
      · have L1 := Lib.hid g1
        have L2 := Lib.hid g2
        have L3 := Lib.hid g3
        have L4 : Hid (left - r.W.length - r.E.length - r.H.length < r.T.length) := Lib.hid (by omega)
        have M := Lib.hid hm
        clear hl hm g1 g2 g3
        go_enter Try.func16, Try.ntmps16
        go_wp2_with fail
        refine (sz32_fit _ _ _ left _ L1.out M.out).mono ?_
        rintro _ _ ⟨rfl, rfl⟩
        go_wp2_with fail
        refine (sz32_fit _ _ _ (left - r.W.length) _ L2.out (by have := M.out; omega)).mono ?_
        rintro _ _ ⟨rfl, rfl⟩
        go_wp2_with fail
        refine (sz32_fit _ _ _ (left - r.W.length - r.E.length) _ L3.out (by have := M.out; omega)).mono ?_
        rintro _ _ ⟨rfl, rfl⟩
        go_wp2_with fail
        refine (sz32_over _ _ _ (left - r.W.length - r.E.length - r.H.length) _ L4.out N4.out (by have := M.out; omega)).mono ?_
        rintro _ _ ⟨rfl, rfl⟩
        go_wp2
        go_ret
        exact ⟨rfl, below_al1 _ _⟩
      · have L1 := Lib.hid g1
        have L2 := Lib.hid g2
        have L3 : Hid (left - r.W.length - r.E.length < r.H.length) := Lib.hid (by omega)
        have M := Lib.hid hm
        clear hl hm g1 g2 g3
        go_enter Try.func16, Try.ntmps16
        go_wp2_with fail
        refine (sz32_fit _ _ _ left _ L1.out M.out).mono ?_
        rintro _ _ ⟨rfl, rfl⟩
        go_wp2_with fail
        refine (sz32_fit _ _ _ (left - r.W.length) _ L2.out (by have := M.out; omega)).mono ?_
        rintro _ _ ⟨rfl, rfl⟩
        go_wp2_with fail
        refine (sz32_over _ _ _ (left - r.W.length - r.E.length) _ L3.out N3.out (by have := M.out; omega)).mono ?_
        rintro _ _ ⟨rfl, rfl⟩
        go_wp2
        go_ret
        exact ⟨rfl, below_al1 _ _⟩
    · have L1 := Lib.hid g1
      have L2 : Hid (left - r.W.length < r.E.length) := Lib.hid (by omega)
      have M := Lib.hid hm
      clear hl hm g1 g2
      go_enter Try.func16, Try.ntmps16
      go_wp2_with fail
      refine (sz32_fit _ _ _ left _ L1.out M.out).mono ?_
      rintro _ _ ⟨rfl, rfl⟩
      go_wp2_with fail
      refine (sz32_over _ _ _ (left - r.W.length) _ L2.out N2.out (by have := M.out; omega)).mono ?_
      rintro _ _ ⟨rfl, rfl⟩
      go_wp2
      go_ret
      exact ⟨rfl, below_al1 _ _⟩
  · have L1 : Hid (left < r.W.length) := Lib.hid (by omega)
    have M := Lib.hid hm
    clear hl hm g1
    go_enter Try.func16, Try.ntmps16
    go_wp2_with fail
    refine (sz32_over _ _ _ left _ L1.out N1.out M.out).mono ?_
    rintro _ _ ⟨rfl, rfl⟩
    go_wp2
    go_ret
    exact ⟨rfl, below_al1 _ _⟩

end Go.Proofs.Ytkbdidpodcclfaa

/- Rods of a call's own: four lists that lie apart; the laws' marks on them. -/
namespace Go.Proofs.Ytkbdidpodcclfaa
open Go.RowKit
set_option linter.unusedVariables false

/-- four lists of a call's own, made since h, that lie apart -/
def RodO (h : Nat) (w : World) (a b c d : Value) (r : RL) : Prop :=
  ∃ i0 i1 i2 i3 i4, h ≤ i0 ∧ i0 ≤ i1 ∧ i1 ≤ i2 ∧ i2 ≤ i3 ∧ i3 ≤ i4 ∧ i4 ≤ w.heap.size ∧ OIn i0 i1 w a r.W ∧ OIn i1 i2 w b r.E ∧ OIn i2 i3 w c r.H ∧ OIn i3 i4 w d r.T
theorem RodO.kept {h : Nat} {w w' : World} {a b c d : Value} {r : RL} (H : RodO h w a b c d r) (hb : Below w.heap.size w w') : RodO h w' a b c d r := by
  obtain ⟨i0, i1, i2, i3, i4, g0, g1, g2, g3, g4, g5, A, B, C, D⟩ := H
  exact ⟨i0, i1, i2, i3, i4, g0, g1, g2, g3, g4, Nat.le_trans g5 hb.size, A.kept hb, B.kept hb, C.kept hb, D.kept hb⟩
theorem RodO.mono {h h' : Nat} {w : World} {a b c d : Value} {r : RL} (H : RodO h w a b c d r) (hh : h' ≤ h) : RodO h' w a b c d r := by
  obtain ⟨i0, i1, i2, i3, i4, g0, g⟩ := H
  exact ⟨i0, i1, i2, i3, i4, Nat.le_trans hh g0, g⟩
theorem RodO.far {h p : Nat} {w w' : World} {a b c d : Value} {r : RL} (H : RodO h w a b c d r) (t : Tur (· = p) w w') (hp : p < h) : RodO h w' a b c d r := by
  obtain ⟨i0, i1, i2, i3, i4, g0, g1, g2, g3, g4, g5, A, B, C, D⟩ := H
  exact ⟨i0, i1, i2, i3, i4, g0, g1, g2, g3, g4, Nat.le_trans g5 t.size, A.tur t (fun j _ _ e => by omega), B.tur t (fun j _ _ e => by omega), C.tur t (fun j _ _ e => by omega), D.tur t (fun j _ _ e => by omega)⟩
theorem RodO.rrow {h : Nat} {w : World} {a b c d : Value} {r : RL} (H : RodO h w a b c d r) (hl : r.size ≤ 1048576) : RRow w a b c d r := by
  obtain ⟨i0, i1, i2, i3, i4, _, _, _, _, _, _, A, B, C, D⟩ := H
  have hx : maxLen = 9223372036854775807 := rfl
  unfold RL.size at hl
  exact ⟨A.frow (by omega), B.frow (by omega), C.frow (by omega), D.frow (by omega)⟩
theorem RodO.shapes {h : Nat} {w : World} {a b c d : Value} {r : RL} (H : RodO h w a b c d r) : (∃ x k, a = .slice x r.W.length k) ∧ (∃ x k, b = .slice x r.E.length k) ∧ (∃ x k, c = .slice x r.H.length k) ∧ ∃ x k, d = .slice x r.T.length k := by
  obtain ⟨i0, i1, i2, i3, i4, _, _, _, _, _, _, A, B, C, D⟩ := H
  exact ⟨A.shape, B.shape, C.shape, D.shape⟩
theorem RodO.nil {h : Nat} {w : World} (hh : h ≤ w.heap.size) : RodO h w (.slice none 0 0) (.slice none 0 0) (.slice none 0 0) (.slice none 0 0) ⟨[], [], [], []⟩ :=
  ⟨w.heap.size, w.heap.size, w.heap.size, w.heap.size, w.heap.size, hh, Nat.le_refl _, Nat.le_refl _, Nat.le_refl _, Nat.le_refl _, Nat.le_refl _, .inl ⟨⟨_, _, rfl⟩, rfl⟩, .inl ⟨⟨_, _, rfl⟩, rfl⟩, .inl ⟨⟨_, _, rfl⟩, rfl⟩, .inl ⟨⟨_, _, rfl⟩, rfl⟩⟩
/-- .. in blocks below u -/
def RodU (h u : Nat) (w : World) (a b c d : Value) (r : RL) : Prop :=
  ∃ i0 i1 i2 i3 i4, h ≤ i0 ∧ i0 ≤ i1 ∧ i1 ≤ i2 ∧ i2 ≤ i3 ∧ i3 ≤ i4 ∧ i4 ≤ u ∧ OIn i0 i1 w a r.W ∧ OIn i1 i2 w b r.E ∧ OIn i2 i3 w c r.H ∧ OIn i3 i4 w d r.T
theorem RodO.toU {h : Nat} {w : World} {a b c d : Value} {r : RL} (H : RodO h w a b c d r) : RodU h w.heap.size w a b c d r := H
theorem RodU.kept {h u : Nat} {w w' : World} {a b c d : Value} {r : RL} (H : RodU h u w a b c d r) (hb : Below w.heap.size w w') : RodU h u w' a b c d r := by
  obtain ⟨i0, i1, i2, i3, i4, g0, g1, g2, g3, g4, g5, A, B, C, D⟩ := H
  exact ⟨i0, i1, i2, i3, i4, g0, g1, g2, g3, g4, g5, A.kept hb, B.kept hb, C.kept hb, D.kept hb⟩
theorem RodU.rrow {h u : Nat} {w : World} {a b c d : Value} {r : RL} (H : RodU h u w a b c d r) (hl : r.size ≤ 1048576) : RRow w a b c d r := by
  obtain ⟨i0, i1, i2, i3, i4, _, _, _, _, _, _, A, B, C, D⟩ := H
  have hx : maxLen = 9223372036854775807 := rfl
  unfold RL.size at hl
  exact ⟨A.frow (by omega), B.frow (by omega), C.frow (by omega), D.frow (by omega)⟩
theorem RodU.shapes {h u : Nat} {w : World} {a b c d : Value} {r : RL} (H : RodU h u w a b c d r) : (∃ x k, a = .slice x r.W.length k) ∧ (∃ x k, b = .slice x r.E.length k) ∧ (∃ x k, c = .slice x r.H.length k) ∧ ∃ x k, d = .slice x r.T.length k := by
  obtain ⟨i0, i1, i2, i3, i4, _, _, _, _, _, _, A, B, C, D⟩ := H
  exact ⟨A.shape, B.shape, C.shape, D.shape⟩
def mksR (r : RL) : RL := ⟨mksK 1 r.W.length, mksK (1 + r.W.length) r.E.length, mksK (1 + r.W.length + r.E.length) r.H.length, mksK (1 + r.W.length + r.E.length + r.H.length) r.T.length⟩

set_option maxHeartbeats 3200000 in
set_option maxRecDepth 8000 in
theorem markRodU {h u : Nat} {a b c d : Value} {r : RL} {w : World} (H : RodU h u w a b c d r) (hu : u ≤ w.heap.size) (hl : r.size ≤ 300) :
    Calls Try.prog 14 #[.agg #[a, b, c, d], .int .i64 1] w fun e w' => e = .returned (.int .i64 ((1 + r.size : Nat) : Int)) ∧ RodU h u w' a b c d (mksR r) ∧ Tur (Rg h u) w w' := by
  obtain ⟨⟨xa, ka, ea⟩, ⟨xb, kb, eb⟩, ⟨xc, kc, ec⟩, ⟨xd, kd, ed⟩⟩ := H.shapes
  obtain ⟨i0, i1, i2, i3, i4, g0, g1, g2, g3, g4, g5, A, B, C, D⟩ := H
  have SZ : Hid (1 + r.W.length + r.E.length + r.H.length + r.T.length = 1 + r.size) := Lib.hid (by unfold RL.size; omega)
  unfold RL.size at hl
  have GG := Lib.hid (And.intro g0 (And.intro g1 (And.intro g2 (And.intro g3 (And.intro g4 (And.intro g5 hu))))))
  have B0 := below_al1 w (.cells [a, b, c, d].toArray 25)
  have A0 := Lib.hid (A.kept B0)
  have A1 := Lib.hid (B.kept B0)
  have A2 := Lib.hid (C.kept B0)
  have A3 := Lib.hid (D.kept B0)
  have X := Lib.hid (Cells.made w [a, b, c, d] 25)
  have BB := Lib.hid B0
  have T0 := Lib.hid (Tur.of_below (S := Rg h u) B0)
  clear A B C D g0 g1 g2 g3 g4 g5 hu B0
  have LW : Hid (r.W.length ≤ 300) := Lib.hid (by omega)
  have LE : Hid (r.W.length + r.E.length ≤ 300) := Lib.hid (by omega)
  have LH : Hid (r.W.length + r.E.length + r.H.length ≤ 300) := Lib.hid (by omega)
  have LT : Hid (r.W.length + r.E.length + r.H.length + r.T.length ≤ 300) := Lib.hid hl
  subst ea eb ec ed
  have x0 := X.out.at 0 rfl; have x1 := X.out.at 1 rfl; have x2 := X.out.at 2 rfl; have x3 := X.out.at 3 rfl
  clear hl
  go_enter Try.func14, Try.ntmps14
  go_wp2_with fail
  refine (markIn (k := 1) A0.out (by have := LW.out; omega) (by omega)).mono ?_
  rintro e w1 ⟨rfl, hO, ht⟩
  have M0 := Lib.hid hO
  obtain ⟨g0, g1, g2, g3, g4, g5, g6⟩ := GG.out
  have A1 := Lib.hid (A1.out.tur ht (fun j h1 h2 h3 => by have e : i0 ≤ j ∧ j < i1 := h3; omega))
  have A2 := Lib.hid (A2.out.tur ht (fun j h1 h2 h3 => by have e : i0 ≤ j ∧ j < i1 := h3; omega))
  have A3 := Lib.hid (A3.out.tur ht (fun j h1 h2 h3 => by have e : i0 ≤ j ∧ j < i1 := h3; omega))
  have X := Lib.hid (ht.cells X.out (by intro h3; have e : i0 ≤ w.heap.size ∧ w.heap.size < i1 := h3; omega))
  have T0 := Lib.hid (T0.out.trans ⟨ht.os, ht.tape, ht.output, ht.size, fun k hk hs => ht.block k hk (fun h3 => hs (by have e : i0 ≤ k ∧ k < i1 := h3; exact ⟨by omega, by omega⟩))⟩)
  clear hO ht g0 g1 g2 g3 g4 g5 g6 x0 x1 x2 x3
  have x0 := X.out.at 0 rfl; have x1 := X.out.at 1 rfl; have x2 := X.out.at 2 rfl; have x3 := X.out.at 3 rfl
  go_wp2_with fail
  refine (markIn (k := (1 + r.W.length)) A1.out (by have := LE.out; omega) (by have := LW.out; omega)).mono ?_
  rintro e w2 ⟨rfl, hO, ht⟩
  have M1 := Lib.hid hO
  obtain ⟨g0, g1, g2, g3, g4, g5, g6⟩ := GG.out
  have M0 := Lib.hid (M0.out.tur ht (fun j h1 h2 h3 => by have e : i1 ≤ j ∧ j < i2 := h3; omega))
  have A2 := Lib.hid (A2.out.tur ht (fun j h1 h2 h3 => by have e : i1 ≤ j ∧ j < i2 := h3; omega))
  have A3 := Lib.hid (A3.out.tur ht (fun j h1 h2 h3 => by have e : i1 ≤ j ∧ j < i2 := h3; omega))
  have X := Lib.hid (ht.cells X.out (by intro h3; have e : i1 ≤ w.heap.size ∧ w.heap.size < i2 := h3; omega))
  have T0 := Lib.hid (T0.out.trans ⟨ht.os, ht.tape, ht.output, ht.size, fun k hk hs => ht.block k hk (fun h3 => hs (by have e : i1 ≤ k ∧ k < i2 := h3; exact ⟨by omega, by omega⟩))⟩)
  clear hO ht g0 g1 g2 g3 g4 g5 g6 x0 x1 x2 x3
  have x0 := X.out.at 0 rfl; have x1 := X.out.at 1 rfl; have x2 := X.out.at 2 rfl; have x3 := X.out.at 3 rfl
  go_wp2_with fail
  refine (markIn (k := (1 + r.W.length + r.E.length)) A2.out (by have := LH.out; omega) (by have := LE.out; omega)).mono ?_
  rintro e w3 ⟨rfl, hO, ht⟩
  have M2 := Lib.hid hO
  obtain ⟨g0, g1, g2, g3, g4, g5, g6⟩ := GG.out
  have M0 := Lib.hid (M0.out.tur ht (fun j h1 h2 h3 => by have e : i2 ≤ j ∧ j < i3 := h3; omega))
  have M1 := Lib.hid (M1.out.tur ht (fun j h1 h2 h3 => by have e : i2 ≤ j ∧ j < i3 := h3; omega))
  have A3 := Lib.hid (A3.out.tur ht (fun j h1 h2 h3 => by have e : i2 ≤ j ∧ j < i3 := h3; omega))
  have X := Lib.hid (ht.cells X.out (by intro h3; have e : i2 ≤ w.heap.size ∧ w.heap.size < i3 := h3; omega))
  have T0 := Lib.hid (T0.out.trans ⟨ht.os, ht.tape, ht.output, ht.size, fun k hk hs => ht.block k hk (fun h3 => hs (by have e : i2 ≤ k ∧ k < i3 := h3; exact ⟨by omega, by omega⟩))⟩)
  clear hO ht g0 g1 g2 g3 g4 g5 g6 x0 x1 x2 x3
  have x0 := X.out.at 0 rfl; have x1 := X.out.at 1 rfl; have x2 := X.out.at 2 rfl; have x3 := X.out.at 3 rfl
  go_wp2_with fail
  refine (markIn (k := (1 + r.W.length + r.E.length + r.H.length)) A3.out (by have := LT.out; omega) (by have := LH.out; omega)).mono ?_
  rintro e w4 ⟨rfl, hO, ht⟩
  have M3 := Lib.hid hO
  obtain ⟨g0, g1, g2, g3, g4, g5, g6⟩ := GG.out
  have M0 := Lib.hid (M0.out.tur ht (fun j h1 h2 h3 => by have e : i3 ≤ j ∧ j < i4 := h3; omega))
  have M1 := Lib.hid (M1.out.tur ht (fun j h1 h2 h3 => by have e : i3 ≤ j ∧ j < i4 := h3; omega))
  have M2 := Lib.hid (M2.out.tur ht (fun j h1 h2 h3 => by have e : i3 ≤ j ∧ j < i4 := h3; omega))
  have X := Lib.hid (ht.cells X.out (by intro h3; have e : i3 ≤ w.heap.size ∧ w.heap.size < i4 := h3; omega))
  have T0 := Lib.hid (T0.out.trans ⟨ht.os, ht.tape, ht.output, ht.size, fun k hk hs => ht.block k hk (fun h3 => hs (by have e : i3 ≤ k ∧ k < i4 := h3; exact ⟨by omega, by omega⟩))⟩)
  clear hO ht g0 g1 g2 g3 g4 g5 g6 x0 x1 x2 x3
  have x0 := X.out.at 0 rfl; have x1 := X.out.at 1 rfl; have x2 := X.out.at 2 rfl; have x3 := X.out.at 3 rfl
  go_wp2
  go_ret
  obtain ⟨g0, g1, g2, g3, g4, g5, g6⟩ := GG.out
  refine ⟨by rw [← SZ.out]; rfl, ⟨i0, i1, i2, i3, i4, g0, g1, g2, g3, g4, g5, ?_, ?_, ?_, ?_⟩, T0.out⟩
  · simpa [mksR, mksK_length] using M0.out
  · simpa [mksR, mksK_length] using M1.out
  · simpa [mksR, mksK_length] using M2.out
  · simpa [mksR, mksK_length] using M3.out
set_option maxHeartbeats 3200000 in
set_option maxRecDepth 8000 in
theorem heldRodU {h u : Nat} {a b c d : Value} {r : RL} {w : World} (H : RodU h u w a b c d (mksR r)) (hu : u ≤ w.heap.size) (hl : r.size ≤ 300) :
    Calls Try.prog 15 #[.agg #[a, b, c, d], .int .i64 1] w fun e w' => e = .returned (.int .i64 ((1 + r.size : Nat) : Int)) ∧ Below w.heap.size w w' := by
  obtain ⟨⟨xa, ka, ea⟩, ⟨xb, kb, eb⟩, ⟨xc, kc, ec⟩, ⟨xd, kd, ed⟩⟩ := H.shapes
  obtain ⟨i0, i1, i2, i3, i4, g0, g1, g2, g3, g4, g5, A, B, C, D⟩ := H
  have SZ : Hid (1 + r.W.length + r.E.length + r.H.length + r.T.length = 1 + r.size) := Lib.hid (by unfold RL.size; omega)
  unfold RL.size at hl
  have GG := Lib.hid (And.intro g0 (And.intro g1 (And.intro g2 (And.intro g3 (And.intro g4 (And.intro g5 hu))))))
  have B0 := below_al1 w (.cells [a, b, c, d].toArray 25)
  have A0 := Lib.hid (A.kept B0)
  have A1 := Lib.hid (B.kept B0)
  have A2 := Lib.hid (C.kept B0)
  have A3 := Lib.hid (D.kept B0)
  have X := Lib.hid (Cells.made w [a, b, c, d] 25)
  have BB := Lib.hid B0
  clear A B C D g0 g1 g2 g3 g4 g5 hu B0
  have LW : Hid (r.W.length ≤ 300) := Lib.hid (by omega)
  have LE : Hid (r.W.length + r.E.length ≤ 300) := Lib.hid (by omega)
  have LH : Hid (r.W.length + r.E.length + r.H.length ≤ 300) := Lib.hid (by omega)
  have LT : Hid (r.W.length + r.E.length + r.H.length + r.T.length ≤ 300) := Lib.hid hl
  subst ea eb ec ed
  have x0 := X.out.at 0 rfl; have x1 := X.out.at 1 rfl; have x2 := X.out.at 2 rfl; have x3 := X.out.at 3 rfl
  clear hl
  go_enter Try.func15, Try.ntmps15
  go_wp2_with fail
  refine (heldIn (k := 1) A0.out (by have := LW.out; omega)).mono ?_
  rintro e w1 ⟨rfl, rfl⟩
  go_wp2_with fail
  refine (heldIn (k := (1 + r.W.length)) A1.out (by have := LE.out; omega)).mono ?_
  rintro e w2 ⟨rfl, rfl⟩
  go_wp2_with fail
  refine (heldIn (k := (1 + r.W.length + r.E.length)) A2.out (by have := LH.out; omega)).mono ?_
  rintro e w3 ⟨rfl, rfl⟩
  go_wp2_with fail
  refine (heldIn (k := (1 + r.W.length + r.E.length + r.H.length)) A3.out (by have := LT.out; omega)).mono ?_
  rintro e w4 ⟨rfl, rfl⟩
  go_wp2
  go_ret
  exact ⟨by rw [← SZ.out]; rfl, BB.out⟩
end Go.Proofs.Ytkbdidpodcclfaa

/- The laws' marks: numbers written into a slice one after another, and read again. -/
namespace Go.Proofs.Ytkbdidpodcclfaa
open Go.RowKit
set_option linter.unusedVariables false

def mkF (f : Nat → Nat) (o n k i : Nat) : Nat := if o ≤ i ∧ i < o + n then fb (k + (i - o)) else f i
theorem mkF_zero (f : Nat → Nat) (o k i : Nat) : mkF f o 0 k i = f i := by unfold mkF; rw [if_neg (by omega)]

theorem mark_any (g o n N k c : Nat) (f : Nat → Nat) (w : World) (hr : w.rowIs g 22 N (fun i => .float .f32 (f i))) (ho : o + n ≤ N) (hn : n ≤ 48) (hk : k ≤ 400) :
    Calls Try.prog 26 #[.slice (some ⟨g, o, none⟩) n c, .int .i64 k] w fun e w' => e = .returned (.int .i64 ((k + n : Nat) : Int)) ∧ w'.rowIs g 22 N (fun i => .float .f32 (mkF f o n k i)) ∧ Onl g w w' := by
  have HR := Lib.hid hr
  have HO := Lib.hid ho
  clear hr ho
  go_enter Try.func26, Try.ntmps26
  go_wp2
  go_loopw [1, 5] (fun q i wr => ∃ j : Nat, j ≤ n ∧ i = .int .i64 j ∧ q = .int .i64 ((k + j : Nat) : Int) ∧ Hid (wr.rowIs g 22 N (fun i => .float .f32 (mkF f o j k i))) ∧ Hid (Onl g w wr)) (fun _ i _ => n - (intOf i).toNat)
  case atStart => exact ⟨0, Nat.zero_le _, rfl, rfl, Lib.hid (HR.out.congr (fun i _ => by rw [mkF_zero])), Lib.hid (Onl.refl g w)⟩
  case round =>
    obtain ⟨j, hj, rfl, rfl, hrow, hon⟩ := hrel
    by_cases hlt : j < n
    · have hjN : o + j < N := by have := HO.out; omega
      have e3 : wr.cell? ⟨g, o + j, none⟩ = some (.float .f32 (mkF f o j k (o + j))) := hrow.out.cell hjN
      have e4 : wr.frozen? ⟨g, o + j, none⟩ = false := hrow.out.frozen _
      generalize mkF f o j k (o + j) = old at *
      have hi : (0 : Int) ≤ (j : Int) := by omega
      have hi' : (j : Int) < (n : Int) := by omega
      go_wp2
      go_roundw
      case rel =>
        refine ⟨j + 1, by omega, by go_num, by go_num, Lib.hid ((hrow.out.set (o + j) _).congr (fun i hi => ?_)), Lib.hid (Onl.setCell hon.out _ _)⟩
        by_cases e : i = o + j
        · subst e
          simp only [if_pos, mkF]
          rw [if_pos (by omega)]
          unfold fb
          congr 2
          omega
        · rw [if_neg e]
          unfold mkF
          by_cases h1 : o ≤ i ∧ i < o + j
          · rw [if_pos h1, if_pos (by omega)]
          · rw [if_neg h1, if_neg (by omega)]
      case measure => simp [intOf]; omega
    · have e := Lib.hid (show j = n by omega)
      go_wp2
      go_ret
      have := e.out
      subst this
      exact ⟨rfl, hrow.out, hon.out⟩

theorem held_any (g o n N k c : Nat) (f : Nat → Nat) (w : World) (hr : w.rowIs g 22 N (fun i => .float .f32 (f i))) (ho : o + n ≤ N) (hn : n ≤ 48) (hk : k ≤ 400) (hf : ∀ i, i < n → f (o + i) = fb (k + i)) :
    Calls Try.prog 30 #[.slice (some ⟨g, o, none⟩) n c, .int .i64 k] w fun e w' => e = .returned (.int .i64 ((k + n : Nat) : Int)) ∧ w = w' := by
  have HC : Hid (∀ i, i < n → w.cell? ⟨g, o + i, none⟩ = some (.float .f32 (fb (k + i)))) := Lib.hid (fun i hi => by rw [hr.cell (by omega), hf i hi])
  clear hr ho hf
  go_enter Try.func30, Try.ntmps30
  go_wp2
  go_loop [1, 5] (fun q i => ∃ j : Nat, j ≤ n ∧ i = .int .i64 j ∧ q = .int .i64 ((k + j : Nat) : Int)) (fun _ i => n - (intOf i).toNat)
  case atStart => exact ⟨0, Nat.zero_le _, rfl, rfl⟩
  case round =>
    obtain ⟨j, hj, rfl, rfl⟩ := hrel
    by_cases hlt : j < n
    · have z0 := HC.out j hlt
      have es := fb_self (k + j) (by omega)
      have en : (FloatKind.f32.format.order (fb (k + j)) (fb (k + j)) != some .eq) = false := by simpa using es
      unfold fb at z0 es en
      rw [Int.natCast_add] at z0 es en
      have hi : (0 : Int) ≤ (j : Int) := by omega
      have hi' : (j : Int) < (n : Int) := by omega
      go_wp2
      go_round
      case rel => exact ⟨j + 1, by omega, by go_num, by go_num⟩
      case measure => simp [intOf]; omega
    · have e := Lib.hid (show j = n by omega)
      go_wp2
      go_ret
      have := e.out
      subst this
      exact ⟨rfl, rfl⟩

theorem mark_nil (k : Nat) (w : World) (hk : k ≤ 400) : Calls Try.prog 26 #[.slice none 0 0, .int .i64 k] w fun e w' => e = .returned (.int .i64 k) ∧ w = w' := by
  go_enter Try.func26, Try.ntmps26
  go_wp2
  go_loop [1, 5] (fun q i => i = .int .i64 0 ∧ q = .int .i64 k) (fun _ _ => 0)
  case atStart => exact ⟨rfl, rfl⟩
  case round =>
    obtain ⟨rfl, rfl⟩ := hrel
    go_wp2
    go_ret
    exact ⟨rfl, rfl⟩
theorem held_nil (k : Nat) (w : World) (hk : k ≤ 400) : Calls Try.prog 30 #[.slice none 0 0, .int .i64 k] w fun e w' => e = .returned (.int .i64 k) ∧ w = w' := by
  go_enter Try.func30, Try.ntmps30
  go_wp2
  go_loop [1, 5] (fun q i => i = .int .i64 0 ∧ q = .int .i64 k) (fun _ _ => 0)
  case atStart => exact ⟨rfl, rfl⟩
  case round =>
    obtain ⟨rfl, rfl⟩ := hrel
    go_wp2
    go_ret
    exact ⟨rfl, rfl⟩

/-- a rod of n cells whose four lists lie one behind the other in block g -/
def inBlk (g n : Nat) : Value := .agg #[.slice (some ⟨g, 0, none⟩) n n, .slice (some ⟨g, n, none⟩) n n, .slice (some ⟨g, 2 * n, none⟩) n n, .slice (some ⟨g, 3 * n, none⟩) n n]
theorem mkF_all (f : Nat → Nat) (n i : Nat) (hi : i < 4 * n) : mkF (mkF (mkF (mkF f 0 n 1) n n (1 + n)) (2 * n) n (1 + n + n)) (3 * n) n (1 + n + n + n) i = fb (1 + i) := by
  unfold mkF
  by_cases h3 : 3 * n ≤ i
  · rw [if_pos (by omega)]; congr 1; omega
  · rw [if_neg (by omega)]
    by_cases h2 : 2 * n ≤ i
    · rw [if_pos (by omega)]; congr 1; omega
    · rw [if_neg (by omega)]
      by_cases h1 : n ≤ i
      · rw [if_pos (by omega)]; congr 1; omega
      · rw [if_neg (by omega), if_pos (by omega)]; congr 1

end Go.Proofs.Ytkbdidpodcclfaa

/- The laws' marks on rods. -/
namespace Go.Proofs.Ytkbdidpodcclfaa
open Go.RowKit
set_option linter.unusedVariables false

set_option maxHeartbeats 1600000 in
theorem markRod_blk (g n : Nat) (f : Nat → Nat) (w : World) (hr : w.rowIs g 22 (4 * n) (fun i => .float .f32 (f i))) (hn : n ≤ 48) :
    Calls Try.prog 14 #[inBlk g n, .int .i64 1] w fun e w' => e = .returned (.int .i64 ((1 + n + n + n + n : Nat) : Int)) ∧ w'.rowIs g 22 (4 * n) (fun i => .float .f32 (fb (1 + i))) ∧ Tur (· = g) w w' := by
  have hgl := hr.lt
  have R := Lib.hid (rowIs_below hr (below_al1 w (.cells [Value.slice (some ⟨g, 0, none⟩) n n, .slice (some ⟨g, n, none⟩) n n, .slice (some ⟨g, 2 * n, none⟩) n n, .slice (some ⟨g, 3 * n, none⟩) n n].toArray 25)))
  have A := Lib.hid (Cells.made w [.slice (some ⟨g, 0, none⟩) n n, .slice (some ⟨g, n, none⟩) n n, .slice (some ⟨g, 2 * n, none⟩) n n, .slice (some ⟨g, 3 * n, none⟩) n n] 25)
  have T := Lib.hid (Tur.of_below (S := (· = g)) (below_al1 w (.cells [Value.slice (some ⟨g, 0, none⟩) n n, .slice (some ⟨g, n, none⟩) n n, .slice (some ⟨g, 2 * n, none⟩) n n, .slice (some ⟨g, 3 * n, none⟩) n n].toArray 25)))
  have NE : Hid (¬ w.heap.size = g) := Lib.hid (by omega)
  have GL := Lib.hid hgl
  have fin1 := Lib.hid (fun (w' : World) (h : w'.rowIs g 22 (4 * n) (fun i => .float .f32 (mkF (mkF (mkF (mkF f 0 n 1) n n (1 + n)) (2 * n) n (1 + n + n)) (3 * n) n (1 + n + n + n) i))) => h.congr (g := fun i => .float .f32 (fb (1 + i))) (fun i hi => by rw [mkF_all f n i hi]))
  clear hr hgl
  unfold inBlk
  go_enter Try.func14, Try.ntmps14
  go_wp2_with fail
  refine (mark_any g 0 n (4 * n) 1 n f _ R.out (by omega) hn (by omega)).mono ?_
  rintro _ w1 ⟨rfl, hr, ho⟩
  have R := Lib.hid hr
  have A := Lib.hid ((Tur.of_onl (S := (· = g)) ho rfl).cells A.out NE.out)
  have T := Lib.hid (T.out.trans (Tur.of_onl ho rfl))
  have c0 := A.out.at 0 rfl; have c1 := A.out.at 1 rfl; have c2 := A.out.at 2 rfl; have c3 := A.out.at 3 rfl
  clear hr ho
  go_wp2_with fail
  refine (mark_any g n n (4 * n) (1 + n) n _ _ R.out (by omega) hn (by omega)).mono ?_
  rintro _ w2 ⟨rfl, hr, ho⟩
  have R := Lib.hid hr
  have A := Lib.hid ((Tur.of_onl (S := (· = g)) ho rfl).cells A.out NE.out)
  have T := Lib.hid (T.out.trans (Tur.of_onl ho rfl))
  have c0 := A.out.at 0 rfl; have c1 := A.out.at 1 rfl; have c2 := A.out.at 2 rfl; have c3 := A.out.at 3 rfl
  clear hr ho
  go_wp2_with fail
  refine (mark_any g (2 * n) n (4 * n) (1 + n + n) n _ _ R.out (by omega) hn (by omega)).mono ?_
  rintro _ w3 ⟨rfl, hr, ho⟩
  have R := Lib.hid hr
  have A := Lib.hid ((Tur.of_onl (S := (· = g)) ho rfl).cells A.out NE.out)
  have T := Lib.hid (T.out.trans (Tur.of_onl ho rfl))
  have c0 := A.out.at 0 rfl; have c1 := A.out.at 1 rfl; have c2 := A.out.at 2 rfl; have c3 := A.out.at 3 rfl
  clear hr ho
  go_wp2_with fail
  refine (mark_any g (3 * n) n (4 * n) (1 + n + n + n) n _ _ R.out (by omega) hn (by omega)).mono ?_
  rintro _ w4 ⟨rfl, hr, ho⟩
  have R := Lib.hid hr
  have T := Lib.hid (T.out.trans (Tur.of_onl ho rfl))
  clear hr ho
  go_wp2
  go_ret
  exact ⟨rfl, fin1.out _ R.out, T.out⟩

set_option maxHeartbeats 1600000 in
theorem heldRod_blk (g n : Nat) (w : World) (hr : w.rowIs g 22 (4 * n) (fun i => .float .f32 (fb (1 + i)))) (hn : n ≤ 48) :
    Calls Try.prog 15 #[inBlk g n, .int .i64 1] w fun e w' => e = .returned (.int .i64 ((1 + n + n + n + n : Nat) : Int)) ∧ Below w.heap.size w w' := by
  have R := Lib.hid (rowIs_below hr (below_al1 w (.cells [Value.slice (some ⟨g, 0, none⟩) n n, .slice (some ⟨g, n, none⟩) n n, .slice (some ⟨g, 2 * n, none⟩) n n, .slice (some ⟨g, 3 * n, none⟩) n n].toArray 25)))
  clear hr
  unfold inBlk
  go_enter Try.func15, Try.ntmps15
  go_wp2_with fail
  refine (held_any g 0 n (4 * n) 1 n (fun i => fb (1 + i)) _ R.out (by omega) hn (by omega) (fun i _ => by congr 1; omega)).mono ?_
  rintro _ _ ⟨rfl, rfl⟩
  go_wp2_with fail
  refine (held_any g n n (4 * n) (1 + n) n (fun i => fb (1 + i)) _ R.out (by omega) hn (by omega) (fun i _ => by congr 1; omega)).mono ?_
  rintro _ _ ⟨rfl, rfl⟩
  go_wp2_with fail
  refine (held_any g (2 * n) n (4 * n) (1 + n + n) n (fun i => fb (1 + i)) _ R.out (by omega) hn (by omega) (fun i _ => by congr 1; omega)).mono ?_
  rintro _ _ ⟨rfl, rfl⟩
  go_wp2_with fail
  refine (held_any g (3 * n) n (4 * n) (1 + n + n + n) n (fun i => fb (1 + i)) _ R.out (by omega) hn (by omega) (fun i _ => by congr 1; omega)).mono ?_
  rintro _ _ ⟨rfl, rfl⟩
  go_wp2
  go_ret
  exact ⟨rfl, below_al1 _ _⟩

/-- the rod without cells -/
def nilRod : Value := .agg #[.slice none 0 0, .slice none 0 0, .slice none 0 0, .slice none 0 0]
theorem markRod_nil (w : World) : Calls Try.prog 14 #[nilRod, .int .i64 1] w fun e w' => e = .returned (.int .i64 1) ∧ Below w.heap.size w w' := by
  unfold nilRod
  go_enter Try.func14, Try.ntmps14
  go_wp2_with (go_at_call 26; refine (mark_nil 1 _ (by omega)).mono ?_; rintro e w' ⟨rfl, rfl⟩)
  go_ret
  exact ⟨rfl, below_al1 _ _⟩
theorem heldRod_nil (w : World) : Calls Try.prog 15 #[nilRod, .int .i64 1] w fun e w' => e = .returned (.int .i64 1) ∧ Below w.heap.size w w' := by
  unfold nilRod
  go_enter Try.func15, Try.ntmps15
  go_wp2_with (go_at_call 30; refine (held_nil 1 _ (by omega)).mono ?_; rintro e w' ⟨rfl, rfl⟩)
  go_ret
  exact ⟨rfl, below_al1 _ _⟩
end Go.Proofs.Ytkbdidpodcclfaa

/- Rods of a call's own: four lists apart, or side by side in one block; the laws' marks on them; what functions over rods hand back. -/
namespace Go.Proofs.Ytkbdidpodcclfaa
open Go.RowKit
set_option linter.unusedVariables false

/-- the numbers of a rod in one block -/
def rlF (n : Nat) (r : RL) (i : Nat) : Nat := if i < n then r.W.getD i 0 else if i < 2 * n then r.E.getD (i - n) 0 else if i < 3 * n then r.H.getD (i - 2 * n) 0 else r.T.getD (i - 3 * n) 0
theorem rlF_row {w : World} {g n : Nat} {r : RL} (h : w.rowIs g 22 (4 * n) (fun i => .float .f32 (rlF n r i))) (hn : n ≤ 1000) (h0 : r.W.length = n) (h1 : r.E.length = n) (h2 : r.H.length = n) (h3 : r.T.length = n) :
    RRow w (.slice (some ⟨g, 0, none⟩) n n) (.slice (some ⟨g, n, none⟩) n n) (.slice (some ⟨g, 2 * n, none⟩) n n) (.slice (some ⟨g, 3 * n, none⟩) n n) r := by
  have hx : maxLen = 9223372036854775807 := rfl
  have key : ∀ (o : Nat) (zs : List Nat), zs.length = n → (∀ i, i < n → rlF n r (o + i) = zs.getD i 0) → o + n ≤ 4 * n → FRow w (.slice (some ⟨g, o, none⟩) n n) zs := by
    intro o zs hz hf ho
    refine .inr ⟨g, o, n, by rw [hz], by rw [hz]; omega, fun i hi => ?_⟩
    rw [hz] at hi
    rw [h.cell (by omega), hf i hi]
  refine ⟨key 0 r.W h0 (fun i hi => ?_) (by omega), key n r.E h1 (fun i hi => ?_) (by omega), key (2 * n) r.H h2 (fun i hi => ?_) (by omega), key (3 * n) r.T h3 (fun i hi => ?_) (by omega)⟩
  all_goals
    unfold rlF
    repeat' split
    all_goals first | omega | (congr 1; omega)
/-- four lists side by side in one block from h to below u -/
def RodB (h u : Nat) (w : World) (a b c d : Value) (r : RL) : Prop :=
  ∃ g n, h ≤ g ∧ g < u ∧ n ≤ 48 ∧ (r.W.length = n ∧ r.E.length = n ∧ r.H.length = n ∧ r.T.length = n) ∧ (a = .slice (some ⟨g, 0, none⟩) n n ∧ b = .slice (some ⟨g, n, none⟩) n n ∧ c = .slice (some ⟨g, 2 * n, none⟩) n n ∧ d = .slice (some ⟨g, 3 * n, none⟩) n n) ∧ w.rowIs g 22 (4 * n) (fun i => .float .f32 (rlF n r i))
def RodX (h u : Nat) (w : World) (a b c d : Value) (r : RL) : Prop := RodU h u w a b c d r ∨ RodB h u w a b c d r
theorem RodX.kept {h u : Nat} {w w' : World} {a b c d : Value} {r : RL} (H : RodX h u w a b c d r) (hb : Below w.heap.size w w') : RodX h u w' a b c d r := by
  rcases H with H | ⟨g, n, h1, h2, h3, h4, h5, h6⟩
  · exact .inl (H.kept hb)
  · exact .inr ⟨g, n, h1, h2, h3, h4, h5, rowIs_below h6 hb⟩
theorem RodX.tur {h u : Nat} {S : Nat → Prop} {w w' : World} {a b c d : Value} {r : RL} (H : RodX h u w a b c d r) (t : Tur S w w') (hS : ∀ j, h ≤ j → ¬ S j) : RodX h u w' a b c d r := by
  rcases H with ⟨i0, i1, i2, i3, i4, g0, g1, g2, g3, g4, g5, A, B, C, D⟩ | ⟨g, n, h1, h2, h3, h4, h5, h6⟩
  · exact .inl ⟨i0, i1, i2, i3, i4, g0, g1, g2, g3, g4, g5, A.tur t (fun j _ _ => hS j (by omega)), B.tur t (fun j _ _ => hS j (by omega)), C.tur t (fun j _ _ => hS j (by omega)), D.tur t (fun j _ _ => hS j (by omega))⟩
  · exact .inr ⟨g, n, h1, h2, h3, h4, h5, t.row h6 (hS g h1)⟩
theorem RodX.rrow {h u : Nat} {w : World} {a b c d : Value} {r : RL} (H : RodX h u w a b c d r) (hl : r.size ≤ 1048576) : RRow w a b c d r := by
  rcases H with H | ⟨g, n, h1, h2, h3, ⟨l0, l1, l2, l3⟩, ⟨rfl, rfl, rfl, rfl⟩, h6⟩
  · exact H.rrow hl
  · exact rlF_row h6 (by omega) l0 l1 l2 l3
theorem RodX.shapes {h u : Nat} {w : World} {a b c d : Value} {r : RL} (H : RodX h u w a b c d r) : (∃ x k, a = .slice x r.W.length k) ∧ (∃ x k, b = .slice x r.E.length k) ∧ (∃ x k, c = .slice x r.H.length k) ∧ ∃ x k, d = .slice x r.T.length k := by
  rcases H with H | ⟨g, n, h1, h2, h3, ⟨l0, l1, l2, l3⟩, ⟨rfl, rfl, rfl, rfl⟩, h6⟩
  · exact H.shapes
  · rw [l0, l1, l2, l3]
    exact ⟨⟨_, _, rfl⟩, ⟨_, _, rfl⟩, ⟨_, _, rfl⟩, ⟨_, _, rfl⟩⟩
theorem rlF_mks {n : Nat} {r : RL} (h0 : r.W.length = n) (h1 : r.E.length = n) (h2 : r.H.length = n) (h3 : r.T.length = n) {i : Nat} (hi : i < 4 * n) : rlF n (mksR r) i = fb (1 + i) := by
  have key : ∀ k j, j < n → (mksK k n).getD j 0 = fb (k + j) := fun k j hj => by simp [mksK, List.getD_eq_getElem?_getD, hj]
  unfold rlF mksR
  simp only [h0, h1, h2, h3]
  repeat' split
  · exact key 1 i (by omega)
  · rw [key _ _ (by omega)]; congr 1; omega
  · rw [key _ _ (by omega)]; congr 1; omega
  · rw [key _ _ (by omega)]; congr 1; omega
theorem markRodX {h u : Nat} {a b c d : Value} {r : RL} {w : World} (H : RodX h u w a b c d r) (hu : u ≤ w.heap.size) (hl : r.size ≤ 300) :
    Calls Try.prog 14 #[.agg #[a, b, c, d], .int .i64 1] w fun e w' => e = .returned (.int .i64 ((1 + r.size : Nat) : Int)) ∧ RodX h u w' a b c d (mksR r) ∧ Tur (Rg h u) w w' := by
  rcases H with H | ⟨g, n, h1, h2, h3, ⟨l0, l1, l2, l3⟩, ⟨rfl, rfl, rfl, rfl⟩, h6⟩
  · exact (markRodU H hu hl).mono fun e w' ⟨he, hU, ht⟩ => ⟨he, .inl hU, ht⟩
  · refine (markRod_blk g n _ w h6 h3).mono ?_
    rintro e w' ⟨rfl, hr, ht⟩
    refine ⟨by unfold RL.size; rw [l0, l1, l2, l3]; congr 3; omega, .inr ⟨g, n, h1, h2, h3, by simp [mksR, mksK_length, l0, l1, l2, l3], ⟨rfl, rfl, rfl, rfl⟩, hr.congr fun i hi => by rw [rlF_mks l0 l1 l2 l3 hi]⟩, ?_⟩
    exact ⟨ht.os, ht.tape, ht.output, ht.size, fun k hk hs => ht.block k hk (fun e => hs (by subst e; exact ⟨h1, h2⟩))⟩
theorem heldRodX {h u : Nat} {a b c d : Value} {r : RL} {w : World} (H : RodX h u w a b c d (mksR r)) (hu : u ≤ w.heap.size) (hl : r.size ≤ 300) :
    Calls Try.prog 15 #[.agg #[a, b, c, d], .int .i64 1] w fun e w' => e = .returned (.int .i64 ((1 + r.size : Nat) : Int)) ∧ Below w.heap.size w w' := by
  rcases H with H | ⟨g, n, h1, h2, h3, ⟨l0, l1, l2, l3⟩, ⟨rfl, rfl, rfl, rfl⟩, h6⟩
  · exact heldRodU H hu hl
  · have k0 : r.W.length = n := by simpa [mksR, mksK_length] using l0
    have k1 : r.E.length = n := by simpa [mksR, mksK_length] using l1
    have k2 : r.H.length = n := by simpa [mksR, mksK_length] using l2
    have k3 : r.T.length = n := by simpa [mksR, mksK_length] using l3
    refine (heldRod_blk g n w (h6.congr fun i hi => by rw [rlF_mks k0 k1 k2 k3 hi]) h3).mono ?_
    rintro e w' ⟨rfl, hb⟩
    exact ⟨by unfold RL.size; rw [k0, k1, k2, k3]; congr 3; omega, hb⟩
theorem RodX.nil {h u : Nat} {w : World} (hh : h ≤ u) : RodX h u w (.slice none 0 0) (.slice none 0 0) (.slice none 0 0) (.slice none 0 0) ⟨[], [], [], []⟩ :=
  .inl ⟨u, u, u, u, u, hh, Nat.le_refl _, Nat.le_refl _, Nat.le_refl _, Nat.le_refl _, Nat.le_refl _, .inl ⟨⟨_, _, rfl⟩, rfl⟩, .inl ⟨⟨_, _, rfl⟩, rfl⟩, .inl ⟨⟨_, _, rfl⟩, rfl⟩, .inl ⟨⟨_, _, rfl⟩, rfl⟩⟩
def nilRL : RL := ⟨[], [], [], []⟩
theorem nil_row (w : World) : RRow w (.slice none 0 0) (.slice none 0 0) (.slice none 0 0) (.slice none 0 0) nilRL := ⟨.inl ⟨⟨_, _, rfl⟩, rfl⟩, .inl ⟨⟨_, _, rfl⟩, rfl⟩, .inl ⟨⟨_, _, rfl⟩, rfl⟩, .inl ⟨⟨_, _, rfl⟩, rfl⟩⟩
/-- a rod and a bool, as the specification hands them back -/
def RdB (ok : Bool) (r : RL) (w : World) (e : Ending) (w' : World) : Prop := ∃ a b c d, e = .returned (.tuple #[.agg #[a, b, c, d], .bool ok]) ∧ RRow w' a b c d r ∧ Below w.heap.size w w'
/-- .. the rod lies in memory of its own -/
def RdO (ok : Bool) (r : RL) (w : World) (e : Ending) (w' : World) : Prop := ∃ a b c d, e = .returned (.tuple #[.agg #[a, b, c, d], .bool ok]) ∧ RodX w.heap.size w'.heap.size w' a b c d r ∧ Below w.heap.size w w'
theorem RdB.no {w w' : World} (hb : Below w.heap.size w w') : RdB false nilRL w (.returned (.tuple #[.agg #[.slice none 0 0, .slice none 0 0, .slice none 0 0, .slice none 0 0], .bool false])) w' := ⟨_, _, _, _, rfl, nil_row _, hb⟩
theorem RdO.no {w w' : World} (hb : Below w.heap.size w w') : RdO false nilRL w (.returned (.tuple #[.agg #[.slice none 0 0, .slice none 0 0, .slice none 0 0, .slice none 0 0], .bool false])) w' := ⟨_, _, _, _, rfl, RodX.nil hb.size, hb⟩
end Go.Proofs.Ytkbdidpodcclfaa

/- The laws' marks on a copy of an argument: a list, a rod; from any number on. -/
namespace Go.Proofs.Ytkbdidpodcclfaa
open Go.RowKit
set_option linter.unusedVariables false

/-- marks over a copy of an argument: only its block turns -/
theorem markXk (p k : Nat) (zs : List Nat) (w : World) (H : Cells w p (fl zs)) (hl : zs.length ≤ 1048576) (hk : k ≤ 16777216) :
    Calls Try.prog 26 #[sl p zs, .int .i64 (k : Int)] w fun e w' => e = .returned (.int .i64 ((k + zs.length : Nat) : Int)) ∧ Onl p w w' := by
  have HC : Hid (∃ ys : List Nat, ys.length = zs.length ∧ Cells w p (fl ys)) := Lib.hid ⟨zs, rfl, H⟩
  clear H
  unfold sl
  generalize zs.length = n at *
  go_enter Try.func26, Try.ntmps26
  go_wp2
  go_loopw [1, 5] (fun q i wr => ∃ j : Nat, j ≤ n ∧ i = .int .i64 j ∧ q = .int .i64 ((k + j : Nat) : Int) ∧ Hid (∃ ys : List Nat, ys.length = n ∧ Cells wr p (fl ys)) ∧ Hid (Onl p w wr)) (fun _ i _ => n - (intOf i).toNat)
  case atStart => exact ⟨0, Nat.zero_le _, rfl, rfl, HC, Lib.hid (Onl.refl p w)⟩
  case round =>
    obtain ⟨j, hj, rfl, rfl, hrow, hon⟩ := hrel
    by_cases hlt : j < n
    · obtain ⟨ys, hy, C⟩ := hrow.out
      have hjy : j < ys.length := by omega
      have e3 : wr.cell? ⟨p, j, none⟩ = some (.float .f32 (ys.getD j 0)) := C.at j (by simp [fl, hjy, List.getD_eq_getElem?_getD])
      have e4 : wr.frozen? ⟨p, j, none⟩ = false := C.fz j
      have C := Lib.hid C
      have HY := Lib.hid hy
      clear hrow hy
      generalize ys.getD j 0 = old at *
      have hi : (0 : Int) ≤ (j : Int) := by omega
      have hi' : (j : Int) < (n : Int) := by omega
      go_wp2
      go_roundw
      case rel =>
        refine ⟨j + 1, by omega, by go_num, by go_num, Lib.hid ⟨ys.set j (floatOfInt .f32 ((k + j : Nat) : Int)), by simpa using HY.out, ?_⟩, Lib.hid (Onl.setCell hon.out _ _)⟩
        have := C.out.set j (by simpa [fl] using hjy) (.float .f32 (floatOfInt .f32 ((k + j : Nat) : Int)))
        rw [show fl (ys.set j (floatOfInt .f32 ((k + j : Nat) : Int))) = (fl ys).set j (.float .f32 (floatOfInt .f32 ((k + j : Nat) : Int))) from by simp [fl, List.map_set]]
        simpa using this
      case measure => simp [intOf]; omega
    · have e := Lib.hid (show j = n by omega)
      go_wp2
      go_ret
      have := e.out
      subst this
      exact ⟨rfl, hon.out⟩

set_option maxHeartbeats 1600000 in
theorem markRod_at (r : RL) (x0 x1 x2 x3 : Nat) (w : World) (V0 : RodAt w x0 x1 x2 x3 r) (k : Nat) (hk : k ≤ 2097152) (hl : r.size ≤ 1048576) :
    Calls Try.prog 14 #[.agg #[sl x0 r.W, sl x1 r.E, sl x2 r.H, sl x3 r.T], .int .i64 (k : Int)] w fun e w' => e = .returned (.int .i64 ((k + r.size : Nat) : Int)) ∧ Tur (fun j => x0 ≤ j ∧ j ≤ x3) w w' := by
  have V := Lib.hid (V0.kept (below_al1 w (.cells ([sl x0 r.W, sl x1 r.E, sl x2 r.H, sl x3 r.T]).toArray 25)))
  have A := Lib.hid (Cells.made w ([sl x0 r.W, sl x1 r.E, sl x2 r.H, sl x3 r.T]) 25)
  have T := Lib.hid (Tur.of_below (S := fun j => x0 ≤ j ∧ j ≤ x3) (below_al1 w (.cells ([sl x0 r.W, sl x1 r.E, sl x2 r.H, sl x3 r.T]).toArray 25)))
  have XL := Lib.hid V0.T.lt
  have o1 := V0.o01
  have o2 := V0.o12
  have o3 := V0.o23
  have O1 := Lib.hid o1
  have O2 := Lib.hid o2
  have O3 := Lib.hid o3
  clear V0 o1 o2 o3
  have VW := Lib.hid V.out.W
  have vH := Lib.hid V.out.E
  have vL := Lib.hid V.out.H
  have vK := Lib.hid V.out.T
  clear V
  have SZ : Hid (k + r.W.length + r.E.length + r.H.length + r.T.length = k + r.size) := Lib.hid (by unfold RL.size; omega)
  unfold RL.size at hl
  have LW : Hid (r.W.length ≤ 1048576) := Lib.hid (by omega)
  have lH : Hid (r.E.length ≤ 1048576) := Lib.hid (by omega)
  have lL : Hid (r.H.length ≤ 1048576) := Lib.hid (by omega)
  have lK : Hid (r.T.length ≤ 1048576) := Lib.hid (by omega)
  have HK := Lib.hid hk
  clear hl hk
  have c0 := A.out.at 0 rfl; have c1 := A.out.at 1 rfl; have c2 := A.out.at 2 rfl; have c3 := A.out.at 3 rfl
  go_enter Try.func14, Try.ntmps14
  go_wp2_with fail
  refine (markXk x0 k r.W _ VW.out LW.out (by have := HK.out; have := LW.out; have := lH.out; have := lL.out; omega)).mono ?_
  rintro _ w1 ⟨rfl, hon⟩
  have T0 := Tur.of_onl (S := (· = x0)) hon rfl
  have T := Lib.hid (T.out.trans (Tur.of_onl hon ⟨by have := O1.out; have := O2.out; have := O3.out; omega, by have := O1.out; have := O2.out; have := O3.out; omega⟩))
  have A := Lib.hid (T0.cells A.out (by intro e; have := XL.out; have := O1.out; have := O2.out; have := O3.out; omega))
  have vH := Lib.hid (T0.cells vH.out (by intro e; have := O1.out; have := O2.out; have := O3.out; omega))
  have vL := Lib.hid (T0.cells vL.out (by intro e; have := O1.out; have := O2.out; have := O3.out; omega))
  have vK := Lib.hid (T0.cells vK.out (by intro e; have := O1.out; have := O2.out; have := O3.out; omega))
  clear hon T0 c0 c1 c2 c3
  have c0 := A.out.at 0 rfl; have c1 := A.out.at 1 rfl; have c2 := A.out.at 2 rfl; have c3 := A.out.at 3 rfl
  go_wp2_with fail
  refine (markXk x1 (k + r.W.length) r.E _ vH.out lH.out (by have := HK.out; have := LW.out; have := lH.out; have := lL.out; omega)).mono ?_
  rintro _ w2 ⟨rfl, hon⟩
  have T1 := Tur.of_onl (S := (· = x1)) hon rfl
  have T := Lib.hid (T.out.trans (Tur.of_onl hon ⟨by have := O1.out; have := O2.out; have := O3.out; omega, by have := O1.out; have := O2.out; have := O3.out; omega⟩))
  have A := Lib.hid (T1.cells A.out (by intro e; have := XL.out; have := O1.out; have := O2.out; have := O3.out; omega))
  have vL := Lib.hid (T1.cells vL.out (by intro e; have := O1.out; have := O2.out; have := O3.out; omega))
  have vK := Lib.hid (T1.cells vK.out (by intro e; have := O1.out; have := O2.out; have := O3.out; omega))
  clear hon T1 c0 c1 c2 c3
  have c0 := A.out.at 0 rfl; have c1 := A.out.at 1 rfl; have c2 := A.out.at 2 rfl; have c3 := A.out.at 3 rfl
  go_wp2_with fail
  refine (markXk x2 (k + r.W.length + r.E.length) r.H _ vL.out lL.out (by have := HK.out; have := LW.out; have := lH.out; have := lL.out; omega)).mono ?_
  rintro _ w3 ⟨rfl, hon⟩
  have T2 := Tur.of_onl (S := (· = x2)) hon rfl
  have T := Lib.hid (T.out.trans (Tur.of_onl hon ⟨by have := O1.out; have := O2.out; have := O3.out; omega, by have := O1.out; have := O2.out; have := O3.out; omega⟩))
  have A := Lib.hid (T2.cells A.out (by intro e; have := XL.out; have := O1.out; have := O2.out; have := O3.out; omega))
  have vK := Lib.hid (T2.cells vK.out (by intro e; have := O1.out; have := O2.out; have := O3.out; omega))
  clear hon T2 c0 c1 c2 c3
  have c0 := A.out.at 0 rfl; have c1 := A.out.at 1 rfl; have c2 := A.out.at 2 rfl; have c3 := A.out.at 3 rfl
  go_wp2_with fail
  refine (markXk x3 (k + r.W.length + r.E.length + r.H.length) r.T _ vK.out lK.out (by have := HK.out; have := LW.out; have := lH.out; have := lL.out; omega)).mono ?_
  rintro _ w4 ⟨rfl, hon⟩
  have T3 := Tur.of_onl (S := (· = x3)) hon rfl
  have T := Lib.hid (T.out.trans (Tur.of_onl hon ⟨by have := O1.out; have := O2.out; have := O3.out; omega, by have := O1.out; have := O2.out; have := O3.out; omega⟩))
  have A := Lib.hid (T3.cells A.out (by intro e; have := XL.out; have := O1.out; have := O2.out; have := O3.out; omega))
  clear hon T3 c0 c1 c2 c3
  have c0 := A.out.at 0 rfl; have c1 := A.out.at 1 rfl; have c2 := A.out.at 2 rfl; have c3 := A.out.at 3 rfl
  go_wp2
  go_ret
  exact ⟨by rw [← SZ.out]; rfl, T.out⟩
end Go.Proofs.Ytkbdidpodcclfaa

/- Drawn regions that make memory in any order: what a slot holds may bear a fact on the world (a block's cells) that stays true while nothing that was there turns. One walk in the order of the text serves every order; a tail (stores) runs in the order of the text. -/
namespace Go.Proofs.Ytkbdidpodcclfaa
open Go.RowKit

section
variable {P : Program} {ops : Array Oper} {md : Region.Mode} {C : World → Prop} {T : Nat → Value → World → Prop}

/-- stays true while nothing that was there turns -/
def Pers (φ : World → Prop) : Prop := ∀ w w', φ w → Below w.heap.size w w' → φ w'

/-- which slots bear a fact on which value -/
abbrev SEnv := Nat → Value → Prop
def Facts (T : Nat → Value → World → Prop) (E : SEnv) (w : World) : Prop := ∀ d v, E d v → T d v w
def FNeed (T : Nat → Value → World → Prop) (ops : Array Oper) (o : Oper) (E : SEnv) (w : World) : Prop := ∀ d v, d ∈ o.looksAt ops → E d v → T d v w
def fNext (ops : Array Oper) (o : Oper) (E : SEnv) (a : Act) (v : Value) : SEnv := fun x u => E x u ∨ (Region.wanted o (yielded ops a.tmps) = true ∧ o.dst = some x ∧ u = v)

def FGoodR (P : Program) (T : Nat → Value → World → Prop) (o : Oper) (w : World) : Result Next → Prop
  | .ok (.value v) w' => Below w.heap.size w w' ∧ ∀ d, o.dst = some d → T d v w'
  | .ok .skip w' => Below w.heap.size w w' ∧ ∀ d, o.dst = some d → T d undef w'
  | .ok (.enter f args) w' => Below w.heap.size w w' ∧ Calls P f args w' (fun e w'' => ∃ v, e = .returned v ∧ Below w.heap.size w w'' ∧ ∀ d, o.dst = some d → T d v w'')
  | _ => False
def FValR (T : Nat → Value → World → Prop) (o : Oper) (v : Value) : Result Next → Prop
  | .ok (.value u) w' => v = u ∧ ∀ d, o.dst = some d → T d v w'
  | .ok .skip _ => v = undef
  | .ok (.enter _ _) _ => ∃ w', ∀ d, o.dst = some d → T d v w'
  | _ => False

def fGood (P : Program) (ops : Array Oper) (C : World → Prop) (T : Nat → Value → World → Prop) (o : Oper) (E : SEnv) (a : Act) : Prop :=
  Region.wanted o (yielded ops a.tmps) = true → ∀ w, C w → FNeed T ops o E w → FGoodR P T o w ((execOp a.eval o).run P w)
def fVal (P : Program) (ops : Array Oper) (C : World → Prop) (T : Nat → Value → World → Prop) (o : Oper) (E : SEnv) (a : Act) (v : Value) : Prop :=
  (Region.wanted o (yielded ops a.tmps) = true ∧ ∃ w, C w ∧ FNeed T ops o E w ∧ FValR T o v ((execOp a.eval o).run P w)) ∨ (Region.wanted o (yielded ops a.tmps) = false ∧ v = undef)

def wpFacts (P : Program) (ops : Array Oper) (C : World → Prop) (T : Nat → Value → World → Prop) (Q : SEnv → Act → Prop) : List Oper → SEnv → Act → Prop
  | [], E, a => Q E a
  | o :: rest, E, a => fGood P ops C T o E a ∧ ∀ v, fVal P ops C T o E a v → wpFacts P ops C T Q rest (fNext ops o E a v) (a.put o.dst v)

def fOp (P : Program) (ops : Array Oper) (C : World → Prop) (T : Nat → Value → World → Prop) (i : Nat) (K : SEnv → Act → Prop) (E : SEnv) (a : Act) : Prop :=
  match ops[i]? with
  | none => K E a
  | some o => fGood P ops C T o E a ∧ ∀ v, fVal P ops C T o E a v → K (fNext ops o E a v) (a.put o.dst v)

def Sat (C : World → Prop) (T : Nat → Value → World → Prop) (E : SEnv) : Prop := ∃ w, C w ∧ Facts T E w

/-- operations that only hand a value on: they may come as late as they like -/
def lateOp (o : Oper) : Bool := o.guard.isNone && match o.op with | .extract .. | .move _ | .assign _ => true | _ => false
def lateAt (ops : Array Oper) (late : List Nat) (i : Nat) : Bool := late.contains i && match ops[i]? with | some o => lateOp o | none => false

theorem late_all {o : Oper} {a : Act} (h : lateOp o = true) {v : Value} {w w' : World} (hr : (execOp a.eval o).run P w = .ok (.value v) w') : ∀ u, (execOp a.eval o).run P u = .ok (.value v) u := by
  simp only [lateOp, Bool.and_eq_true] at h
  obtain ⟨_, h⟩ := h
  unfold execOp at *
  cases e : o.op <;> simp only [e] at h hr ⊢ <;> first | (cases h; done) | skip
  case move x => intro u; cases hr; rfl
  case assign x => intro u; cases hr; rfl
  case extract t ix =>
    intro u
    revert hr
    simp only [Instr.extract]
    cases a.eval t with
    | tuple vs =>
      cases hv : vs[ix]? with
      | none => intro hr; simp [hv] at hr
      | some x => intro hr; simp only [hv] at hr ⊢; cases hr; rfl
    | _ => intro hr; cases hr

def wpAnyF (P : Program) (md : Region.Mode) (ops : Array Oper) (late : List Nat) (C : World → Prop) (T : Nat → Value → World → Prop) (n : Nat) (L : Array Bool → SEnv → Act → Prop) : Nat → Array Bool → SEnv → Act → Prop
  | 0, listed, E, a => Sat C T E → L listed E a
  | f + 1, listed, E, a => Sat C T E →
    (∃ m ∈ Region.ready md ops listed, m < n) ∧ ∀ i ∈ Region.ready md ops listed, (i < n → fOp P ops C T i (wpAnyF P md ops late C T n L f (listed.setIfInBounds i true)) E a) ∧
      (n ≤ i → ∀ m, m < n → listed.getD m true = false → lateAt ops late m = true)

theorem Facts.need {E : SEnv} {o : Oper} {w : World} (h : Facts T E w) : FNeed T ops o E w := fun d v _ hv => h d v hv
theorem Facts.next {E : SEnv} {o : Oper} {a : Act} {w w' : World} {v : Value} (hT : ∀ d v, Pers (T d v)) (h : Facts T E w) (hb : Below w.heap.size w w') (hv : Region.wanted o (yielded ops a.tmps) = true → ∀ d, o.dst = some d → T d v w') : Facts T (fNext ops o E a v) w' := by
  intro d u hu
  rcases hu with hu | ⟨hw, hd, rfl⟩
  · exact hT d u _ _ (h d u hu) hb
  · exact hv hw d hd

theorem wpOp_of_fOp {i : Nat} {E : SEnv} {a : Act} {K : SEnv → Act → Prop} {K' : Act → World → Prop} {Q' : Exit → Act → World → Prop} {w : World} (hpC : Pers C) (hpT : ∀ d v, Pers (T d v)) (hC : C w) (hF : Facts T E w)
    (h : ∀ E a w', C w' → Facts T E w' → K E a → K' a w') (hh : fOp P ops C T i K E a) : wpOp P ops Q' i K' a w := by
  unfold fOp at hh
  unfold wpOp
  split
  · rename_i ho; simp only [ho] at hh; exact h _ _ _ hC hF hh
  · rename_i o ho
    simp only [ho] at hh
    obtain ⟨hg, hv⟩ := hh
    split
    · rename_i hw
      refine .inl ?_
      have h1 := hg hw w hC hF.need
      have h2 : ∀ v, FValR T o v ((execOp a.eval o).run P w) → K (fNext ops o E a v) (a.put o.dst v) := fun v hv' => hv v (.inl ⟨hw, w, hC, hF.need, hv'⟩)
      unfold Oper.wp
      generalize (execOp a.eval o).run P w = r at *
      cases r with
      | ok n w' =>
        cases n <;> simp only [FGoodR] at h1 <;> simp only [Oper.upon]
        case value u => exact h _ _ _ (hpC _ _ hC h1.1) (hF.next hpT h1.1 fun _ d hd => h1.2 d hd) (h2 u ⟨rfl, h1.2⟩)
        case skip => exact h _ _ _ (hpC _ _ hC h1.1) (hF.next hpT h1.1 fun _ d hd => h1.2 d hd) (h2 undef rfl)
        case enter f args =>
          obtain ⟨hb, hc⟩ := h1
          exact hc.mono fun e w'' ⟨v, he, hb', ht⟩ => by subst he; exact h _ _ _ (hpC _ _ hC hb') (hF.next hpT hb' fun _ d hd => ht d hd) (h2 v ⟨w'', ht⟩)
      | halt x w' => simp only [FGoodR] at h1
    · rename_i hw
      have hw' : Region.wanted o (yielded ops a.tmps) = false := by simpa using hw
      exact h _ _ _ hC (hF.next hpT (Below.refl _ _) fun hb => absurd hb hw) (hv undef (.inr ⟨hw', rfl⟩))

def lateFreeB (md : Region.Mode) (ops : Array Oper) (late : List Nat) : Bool :=
  late.all fun m => match ops[m]? with
    | none => false
    | some om => (List.range ops.size).all fun j => j == m || match ops[j]? with
      | none => true
      | some oj => oj.after.any (fun e => Region.binds md e && e.on == m) || om.after.any (fun e => Region.binds md e && e.on == j) || om.apart ops oj

theorem late_free {late : List Nat} (h : lateFreeB md ops late = true) {m : Nat} {om : Oper} (hm : ops[m]? = some om) (hl : lateAt ops late m = true) {listed : Array Bool} (hr : m ∈ Region.ready md ops listed) :
    ∀ j oj, ops[j]? = some oj → j ≠ m → listed.getD j true = false → (∀ e ∈ oj.after, Region.binds md e = true → e.on ≠ m) → om.apart ops oj = true := by
  intro j oj hj hne hun hno
  simp only [lateAt, Bool.and_eq_true] at hl
  have h1 := List.all_eq_true.1 h m (by simpa using hl.1)
  simp only [hm, List.all_eq_true, List.mem_range] at h1
  have h2 := h1 j (Array.getElem?_eq_some_iff.1 hj).1
  simp only [hj, Bool.or_eq_true, beq_iff_eq, hne, false_or] at h2
  rcases h2 with (h2 | h2) | h2
  · obtain ⟨e, he, hb⟩ := Array.any_eq_true'.1 h2
    simp only [Bool.and_eq_true, beq_iff_eq] at hb
    exact absurd hb.2 (hno e he hb.1)
  · obtain ⟨e, he, hb⟩ := Array.any_eq_true'.1 h2
    simp only [Bool.and_eq_true, beq_iff_eq] at hb
    obtain ⟨_, o, ho, hall⟩ := mem_ready.1 hr
    have : o = om := Option.some.inj (ho.symm.trans hm)
    subst this
    have h3 := hall e he hb.1
    rw [hb.2, getD_both hun] at h3
    cases h3
  · exact h2

theorem wpAny_of_headF {late : List Nat} {n g : Nat} {L : Array Bool → SEnv → Act → Prop} {Q' : Exit → Act → World → Prop} (hpC : Pers C) (hpT : ∀ d v, Pers (T d v)) (hsel : ∀ (j : Nat) (o : Oper) cs b, ops[j]? = some o → o.op ≠ .select cs b) (hlf : lateFreeB md ops late = true)
    (hQ : ∀ (d : Option Nat) v c a w, Q' (.panic c) (a.put d v) w → Q' (.panic c) a w) (hL : ∀ listed E a w, C w → Facts T E w → L listed E a → wpAny P md ops Q' g listed a w) :
    ∀ (f : Nat) (listed : Array Bool) (E : SEnv) (a : Act) (w : World), C w → Facts T E w → wpAnyF P md ops late C T n L f listed E a → wpAny P md ops Q' (f + g) listed a w
  | 0, listed, E, a, w, hw, hF, h => by rw [Nat.zero_add]; exact hL _ _ _ _ hw hF (h ⟨w, hw, hF⟩)
  | f + 1, listed, E, a, w, hw, hF, h => by
    rw [show f + 1 + g = (f + g) + 1 by omega]
    obtain ⟨⟨m, hm, hmn⟩, h⟩ := h ⟨w, hw, hF⟩
    by_cases hx : ∀ i ∈ Region.ready md ops listed, i < n
    · exact ⟨fun h0 => (by rw [h0] at hm; cases hm), fun i hi => wpOp_of_fOp hpC hpT hw hF (fun E' a' w' hw' hF' h' => wpAny_of_headF hpC hpT hsel hlf hQ hL f _ E' a' w' hw' hF' h') ((h i hi).1 (hx i hi))⟩
    · obtain ⟨i, hx⟩ := Classical.not_forall.1 hx
      obtain ⟨hi, hin⟩ := Classical.not_imp.1 hx
      have hla := (h i hi).2 (by omega) m hmn (mem_ready.1 hm).1
      obtain ⟨_, om, hom, _⟩ := mem_ready.1 hm
      have hfo := (h m hm).1 hmn
      unfold fOp at hfo
      simp only [hom] at hfo
      obtain ⟨hg, hn⟩ := hfo
      have hlo : lateOp om = true := by simp only [lateAt, hom, Bool.and_eq_true] at hla; exact hla.2
      have hwant : Region.wanted om (yielded ops a.tmps) = true := by
        simp only [lateOp, Bool.and_eq_true, Option.isNone_iff_eq_none] at hlo
        simp [Region.wanted, hlo.1]
      have h1 := hg hwant w hw hF.need
      have hy : ∃ v, (execOp a.eval om).run P w = .ok (.value v) w := by
        generalize hr : (execOp a.eval om).run P w = r at h1
        cases r with
        | ok nx w' =>
          cases nx <;> simp only [FGoodR] at h1
          case value u => exact ⟨u, by rw [← hr]; exact late_all hlo hr w⟩
          case skip =>
            simp only [lateOp, Bool.and_eq_true] at hlo
            unfold execOp at hr
            cases e : om.op <;> simp only [e] at hlo hr <;> first | (cases hlo.2; done) | skip
            · cases hr
            · cases hr
            · rename_i t ix
              exfalso
              revert hr
              simp only [Instr.extract]
              cases a.eval t with
              | tuple vs => cases hv : vs[ix]? <;> (intro hr; simp [hv] at hr)
              | _ => intro hr; cases hr
          case enter f args =>
            simp only [lateOp, Bool.and_eq_true] at hlo
            unfold execOp at hr
            cases e : om.op <;> simp only [e] at hlo hr <;> first | (cases hlo.2; done) | skip
            · cases hr
            · cases hr
            · rename_i t ix
              exfalso
              revert hr
              simp only [Instr.extract]
              cases a.eval t with
              | tuple vs => cases hv : vs[ix]? <;> (intro hr; simp [hv] at hr)
              | _ => intro hr; cases hr
        | halt x w' => simp only [FGoodR] at h1
      obtain ⟨v, hv⟩ := hy
      have hall := late_all hlo hv
      rw [hv] at h1
      refine wpAny_first (v := v) hom hsel (hQ om.dst v) _ listed a w (late_free hlf hom hla hm) hm (.inl ⟨hwant, hall⟩) ?_
      exact wpAny_of_headF hpC hpT hsel hlf hQ hL f _ _ _ w hw (hF.next hpT (Below.refl _ _) fun _ => h1.2) (hn v (.inl ⟨hwant, w, hw, hF.need, by rw [hv]; exact ⟨rfl, h1.2⟩⟩))

/-- what another operation leaves does not touch what this one does -/
theorem FNeed_put {o p : Oper} {E : SEnv} {a : Act} {u : Value} {w : World} (h : ∀ d, p.dst = some d → d ∉ o.looksAt ops) : FNeed T ops o (fNext ops p E a u) w ↔ FNeed T ops o E w := by
  constructor
  · intro k d v hd hv; exact k d v hd (.inl hv)
  · intro k d v hd hv
    rcases hv with hv | ⟨_, he, _⟩
    · exact k d v hd hv
    · exact absurd hd (h d he)
theorem fGood_put {o p : Oper} {E : SEnv} {a : Act} {u : Value} (hs : ∀ cs b, o.op ≠ .select cs b) (h : ∀ d, p.dst = some d → d ∉ o.looksAt ops) : fGood P ops C T o (fNext ops p E a u) (a.put p.dst u) ↔ fGood P ops C T o E a := by
  unfold fGood
  rw [execOp_put o hs a p.dst u h, wanted_put o a p.dst u h]
  constructor
  · intro k hw w hC hN; exact k hw w hC ((FNeed_put h).2 hN)
  · intro k hw w hC hN; exact k hw w hC ((FNeed_put h).1 hN)
theorem fVal_put {o p : Oper} {E : SEnv} {a : Act} {u v : Value} (hs : ∀ cs b, o.op ≠ .select cs b) (h : ∀ d, p.dst = some d → d ∉ o.looksAt ops) : fVal P ops C T o (fNext ops p E a u) (a.put p.dst u) v ↔ fVal P ops C T o E a v := by
  unfold fVal
  rw [execOp_put o hs a p.dst u h, wanted_put o a p.dst u h]
  simp only [FNeed_put h]
theorem fNext_comm {o p : Oper} {E : SEnv} {a : Act} {u v : Value} (ho : ∀ d, p.dst = some d → d ∉ o.looksAt ops) (hp : ∀ d, o.dst = some d → d ∉ p.looksAt ops) :
    fNext ops o (fNext ops p E a u) (a.put p.dst u) v = fNext ops p (fNext ops o E a v) (a.put o.dst v) u := by
  unfold fNext
  rw [wanted_put o a p.dst u ho, wanted_put p a o.dst v hp]
  funext x y
  exact propext or_right_comm

/-- there is a value that it may leave, and a world for it -/
theorem some_fVal (hpC : Pers C) (hpT : ∀ d v, Pers (T d v)) {o : Oper} {E : SEnv} {a : Act} (hS : Sat C T E) (hg : fGood P ops C T o E a) : ∃ v, fVal P ops C T o E a v ∧ Sat C T (fNext ops o E a v) := by
  obtain ⟨w, hC, hF⟩ := hS
  by_cases h : Region.wanted o (yielded ops a.tmps) = true
  · have h3 := hg h w hC hF.need
    have : ∃ v, FValR T o v ((execOp a.eval o).run P w) ∧ ∃ w', Below w.heap.size w w' ∧ ∀ d, o.dst = some d → T d v w' := by
      generalize (execOp a.eval o).run P w = r at *
      cases r with
      | ok n w' =>
        cases n <;> simp only [FGoodR] at h3
        case value u => exact ⟨u, ⟨rfl, h3.2⟩, w', h3⟩
        case skip => exact ⟨undef, rfl, w', h3⟩
        case enter f args =>
          obtain ⟨e, w'', fr, ⟨v, _, hb, ht⟩, _⟩ := h3.2 []
          exact ⟨v, ⟨w'', ht⟩, w'', hb, ht⟩
      | halt x w' => simp only [FGoodR] at h3
    obtain ⟨v, hv, w', hb, ht⟩ := this
    exact ⟨v, .inl ⟨h, w, hC, hF.need, hv⟩, w', hpC _ _ hC hb, hF.next hpT hb fun _ => ht⟩
  · exact ⟨undef, .inr ⟨by simpa using h, rfl⟩, w, hC, hF.next hpT (Below.refl _ _) fun hb => absurd hb h⟩

theorem Sat.sub {E E' : SEnv} (h : Sat C T E') (hs : ∀ d v, E d v → E' d v) : Sat C T E := by
  obtain ⟨w, hC, hF⟩ := h
  exact ⟨w, hC, fun d v hv => hF d v (hs d v hv)⟩

theorem wpAnyF_first {late : List Nat} (hpC : Pers C) (hpT : ∀ d v, Pers (T d v)) {n i : Nat} {oi : Oper} {L : Array Bool → SEnv → Act → Prop} (hi : ops[i]? = some oi) (hsel : ∀ (j : Nat) (o : Oper) cs b, ops[j]? = some o → o.op ≠ .select cs b)
    (hw : ∀ listed, HeadInv md ops n listed → ∀ i, i < n → lateAt ops late i = false → listed.getD i true = false → ∀ t, n ≤ t → t ∉ Region.ready md ops listed) (hin : i < n)
    (hdone : ∀ listed E a, L listed E a → ∀ j ∈ Region.ready md ops listed, n ≤ j) :
    ∀ (f : Nat) (listed : Array Bool) (E : SEnv) (a : Act), HeadInv md ops n listed →
      (∀ j oj, ops[j]? = some oj → j ≠ i → listed.getD j true = false → (∀ e ∈ oj.after, Region.binds md e = true → e.on ≠ i) → oi.apart ops oj = true) →
      i ∈ Region.ready md ops listed → (Sat C T E → fGood P ops C T oi E a) →
      (∀ v, fVal P ops C T oi E a v → wpAnyF P md ops late C T n L f (listed.setIfInBounds i true) (fNext ops oi E a v) (a.put oi.dst v)) → wpAnyF P md ops late C T n L (f + 1) listed E a := by
  intro f
  induction f with
  | zero =>
    intro listed E a inv _ hr hy H hS
    have hy := hy hS
    have hun := (mem_ready.1 hr).1
    refine ⟨⟨i, hr, hin⟩, fun j hj => ⟨fun hjn => ?_, fun hjn m hm hmu => ?_⟩⟩
    case refine_2 =>
      cases hl : lateAt ops late m with
      | true => rfl
      | false => exact absurd hj (hw _ inv m hm hl hmu j hjn)
    by_cases hji : j = i
    · subst hji
      unfold fOp; simp only [hi]
      exact ⟨hy, H⟩
    · obtain ⟨v, hv, hS'⟩ := some_fVal hpC hpT hS hy
      have := hdone _ _ _ (H v hv hS') j (ready_mono hj hji)
      omega
  | succ f ih =>
    intro listed E a inv hfree hr hy H hS
    have hy := hy hS
    have hun := (mem_ready.1 hr).1
    refine ⟨⟨i, hr, hin⟩, fun j hj => ⟨fun hjn => ?_, fun hjn m hm hmu => ?_⟩⟩
    case refine_2 =>
      cases hl : lateAt ops late m with
      | true => rfl
      | false => exact absurd hj (hw _ inv m hm hl hmu j hjn)
    by_cases hji : j = i
    · subst hji
      unfold fOp; simp only [hi]
      exact ⟨hy, H⟩
    · obtain ⟨hjun, oj, hoj, hall⟩ := mem_ready.1 hj
      have hnot : ∀ e ∈ oj.after, Region.binds md e = true → e.on ≠ i := fun e he hb heq => by
        have h1 := hall e he hb
        rw [heq, getD_both hun] at h1
        cases h1
      have hap := hfree j oj hoj hji hjun hnot
      obtain ⟨q1, q2, q3⟩ := Oper.apart_spec hap
      have hfree' : ∀ k ok, ops[k]? = some ok → k ≠ i → (listed.setIfInBounds j true).getD k true = false →
          (∀ e ∈ ok.after, Region.binds md e = true → e.on ≠ i) → oi.apart ops ok = true := fun k ok hk hki hun hno => by
        refine hfree k ok hk hki ?_ hno
        by_cases hjk : j = k
        · subst hjk; exact hjun
        · rw [getD_set_ne true hjk] at hun; exact hun
      have si := fun cs b => hsel i oi cs b hi
      have sj := fun cs b => hsel j oj cs b hoj
      obtain ⟨v0, hv0, hS0⟩ := some_fVal hpC hpT hS hy
      have step : ∀ v, fVal P ops C T oi E a v → Sat C T (fNext ops oi E a v) → fGood P ops C T oj E a ∧ ∀ u, fVal P ops C T oj E a u → wpAnyF P md ops late C T n L f ((listed.setIfInBounds i true).setIfInBounds j true) (fNext ops oj (fNext ops oi E a v) (a.put oi.dst v) u) ((a.put oi.dst v).put oj.dst u) := fun v hv hs => by
        have h1 := ((H v hv hs).2 j (ready_mono hj hji)).1 hjn
        unfold fOp at h1
        simp only [hoj] at h1
        exact ⟨(fGood_put sj q1).1 h1.1, fun u hu => h1.2 u ((fVal_put sj q1).2 hu)⟩
      unfold fOp
      simp only [hoj]
      refine ⟨(step v0 hv0 hS0).1, fun u hu => ?_⟩
      refine ih (listed.setIfInBounds j true) (fNext ops oj E a u) (a.put oj.dst u) (inv.set hj hjn) hfree' (ready_mono hr (Ne.symm hji)) (fun _ => (fGood_put si q3).2 hy) fun v hv => ?_
      have hv' : fVal P ops C T oi E a v := (fVal_put si q3).1 hv
      rw [Array.setIfInBounds_comm _ _ hji, ← Act.put_comm a v u q2, fNext_comm q3 q1]
      have key := fun hs => (step v hv' hs).2 u hu
      have hsub : ∀ d x, fNext ops oi E a v d x → fNext ops oj (fNext ops oi E a v) (a.put oi.dst v) u d x := fun d x h => .inl h
      cases f with
      | zero => exact fun hs => key (hs.sub hsub) hs
      | succ f => exact fun hs => key (hs.sub hsub) hs

theorem wpAnyF_lex {late : List Nat} (hpC : Pers C) (hpT : ∀ d v, Pers (T d v)) {n g : Nat} {Lq : SEnv → Act → Prop} (hsel : Region.noSelect ops = true)
    (hw : ∀ listed, HeadInv md ops n listed → ∀ i, i < n → lateAt ops late i = false → listed.getD i true = false → ∀ t, n ≤ t → t ∉ Region.ready md ops listed) :
    ∀ (l : List Oper) (k : Nat) (listed : Array Bool) (E : SEnv) (a : Act), (∀ j, j < l.length → l[j]? = ops[k + j]?) → k + l.length = n → HeadInv md ops n listed →
    Region.lexHead md ops g l.length k listed = true → wpFacts P ops C T Lq l E a →
    wpAnyF P md ops late C T n (fun listed' E' a' => Region.seqB md ops g n listed' = true ∧ Lq E' a') l.length listed E a
  | [], k, listed, E, a, _, hk, _, hB, h => by
    have : k = n := by simpa using hk
    subst this
    exact fun _ => ⟨by simpa [Region.lexHead] using hB, h⟩
  | o :: l, k, listed, E, a, hl, hk, inv, hB, h => by
    have h0 : ops[k]? = some o := by simpa using (hl 0 (by simp)).symm
    simp only [List.length_cons, Region.lexHead, Bool.and_eq_true] at hB
    obtain ⟨⟨hr, hf⟩, hB'⟩ := hB
    have hkn : k < n := by simp only [List.length_cons] at hk; omega
    have hr' : k ∈ Region.ready md ops listed := by simpa using hr
    exact wpAnyF_first hpC hpT h0 (Region.noSelect_spec hsel) hw hkn (fun listed' E' a' hL => seqB_ready hL.1) l.length listed E a inv (Region.free_spec h0 hf) hr' (fun _ => h.1)
      (fun v hv => wpAnyF_lex hpC hpT hsel hw l (k + 1) _ _ _ (fun j hj => by have := hl (j + 1) (by simp; omega); simpa [Nat.add_assoc, Nat.add_comm 1 j] using this) (by simp only [List.length_cons] at hk; omega) (inv.set hr' hkn) hB' (h.2 v hv))

/-- each early operation of the head is waited for, up to operation n -/
def sinkE (md : Region.Mode) (ops : Array Oper) (late : List Nat) (n : Nat) : Bool :=
  (List.range n).all fun i => lateAt ops late i || (List.range (n + 1)).any fun j => decide (i < j) && (j == n || !lateAt ops late j) && Region.waitsFor md ops j i
theorem tail_waitsE {late : List Nat} {n : Nat} {listed : Array Bool} (hs : sinkE md ops late n = true) (hc : Region.chainB md ops n = true) (inv : HeadInv md ops n listed) :
    ∀ (d i : Nat), n - i = d → i < n → lateAt ops late i = false → listed.getD i true = false → ∀ t, n ≤ t → t ∉ Region.ready md ops listed := by
  intro d
  induction d using Nat.strongRecOn with
  | _ d ih =>
    intro i hd hi hl hun t ht hr
    obtain ⟨_, ot, hot, hall⟩ := mem_ready.1 hr
    have htlt : t < ops.size := (Array.getElem?_eq_some_iff.1 hot).1
    by_cases htn : t = n
    · subst htn
      have h1 := List.all_eq_true.1 hs i (List.mem_range.2 hi)
      rw [hl, Bool.false_or] at h1
      obtain ⟨j, hj, hj2⟩ := List.any_eq_true.1 h1
      simp only [Bool.and_eq_true, decide_eq_true_eq, Bool.or_eq_true, beq_iff_eq, Bool.not_eq_true'] at hj2
      obtain ⟨⟨hij, hjl⟩, hjw⟩ := hj2
      obtain ⟨oj, hoj, e, he, hb, hon⟩ := Region.waitsFor_spec hjw
      have hjle : j ≤ t := by have := List.mem_range.1 hj; omega
      by_cases hjt : j = t
      · subst hjt
        have : oj = ot := Option.some.inj (hoj.symm.trans hot)
        subst this
        have h2 := hall e he hb
        rw [hon, getD_both hun] at h2
        cases h2
      · cases hlj : listed.getD j false with
        | true =>
          have h2 := inv.closed j oj hoj hlj e he hb
          rw [hon, getD_both hun] at h2
          cases h2
        | false =>
          have hjs : j < listed.size := by rw [inv.size]; omega
          exact ih (t - j) (by omega) j rfl (by omega) (by rcases hjl with h | h; exact absurd h hjt; exact h) (getD_in hjs hlj) t (Nat.le_refl _) hr
    · have h1 := List.all_eq_true.1 hc t (List.mem_range.2 htlt)
      simp only [Bool.or_eq_true, decide_eq_true_eq] at h1
      rcases h1 with h1 | h1
      · omega
      · obtain ⟨o', ho', e, he, hb, hon⟩ := Region.waitsFor_spec h1
        have : o' = ot := Option.some.inj (ho'.symm.trans hot)
        subst this
        have h2 := hall e he hb
        rw [hon, getD_both (inv.tail (t - 1) (by omega) (by omega))] at h2
        cases h2

def factsTailB (md : Region.Mode) (ops : Array Oper) (late : List Nat) (n : Nat) : Bool :=
  Region.noSelect ops && decide (n < ops.size) && sinkE md ops late n && Region.chainB md ops n && lateFreeB md ops late && Region.lexHead md ops (ops.size - n) n 0 (Array.replicate ops.size false)

/-- the head in any order, the tail in the order of the text; operations of the head in 'late' only hand a value on -/
theorem wp_region_facts_tail {id : Nat} {Q : Exit → Act → World → Prop} {a : Act} {w : World} {l : List Oper} (n : Nat) (late : List Nat) (C : World → Prop) (T : Nat → Value → World → Prop) (hpC : Pers C) (hpT : ∀ d v, Pers (T d v)) (hC : C (w.drewN 1)) (hm : P.follows .mixedOrders = true) (hB : factsTailB .any l.toArray late n = true)
    (hQ : ∀ (d : Option Nat) v c a w, Q (.panic c) (a.put d v) w → Q (.panic c) a w)
    (h : wpFacts P l.toArray C T (fun E a' => ∀ w', C w' → Facts T E w' → wpList P l.toArray Q (l.drop n) a' w') (l.take n) (fun _ _ => False) a) : (Code.region id l.toArray true).wp P Q a w := by
  simp only [factsTailB, Bool.and_eq_true, decide_eq_true_eq] at hB
  obtain ⟨⟨⟨⟨⟨hsel, hn⟩, hs⟩, hc⟩, hlf⟩, hlex⟩ := hB
  have hn' : n < l.length := by simpa using hn
  have htl : (l.take n).length = n := by simp; omega
  have hdl : (l.drop n).length = l.toArray.size - n := by simp
  have inv0 : HeadInv .any l.toArray n (Array.replicate l.toArray.size false) :=
    ⟨by simp, fun j oj _ hl => (by rw [getD_replicate_false] at hl; cases hl), fun t _ ht => getD_in (by simpa using ht) (getD_replicate_false _ _)⟩
  have H := wpAnyF_lex (P := P) (C := C) (T := T) (md := .any) (g := l.toArray.size - n) (late := late) hpC hpT hsel (fun listed inv i hin hl hun => tail_waitsE hs hc inv _ i rfl hin hl hun) (l.take n) 0 _ _ a (fun j hj => by
    have hj' : j < n := by rw [htl] at hj; exact hj
    simp [hj']) (by simpa using htl) inv0 (by rw [htl]; exact hlex) h
  refine wp_region_any hm ?_
  have := wpAny_of_headF (Q' := Q) (g := l.toArray.size - n) hpC hpT (Region.noSelect_spec hsel) hlf hQ (fun listed E a' w' hw' hF' hL => by
    have := wpAny_of_seq (md := .any) (Q' := Q) (l.drop n) n listed a' w' (fun j => by simp [List.getElem?_drop]) (by rw [hdl]; exact hL.1) (hL.2 w' hw' hF')
    rwa [hdl] at this) _ _ _ _ (w.drewN 1) hC (fun _ _ h => h.elim) H
  rw [htl, show n + (l.toArray.size - n) = l.toArray.size by omega] at this
  exact this

def factsB (md : Region.Mode) (ops : Array Oper) (k : Nat) : Bool := Region.noSelect ops && Region.lexHead md ops 0 k 0 (Array.replicate k false)
/-- all in any order -/
theorem wp_region_facts {id : Nat} {Q : Exit → Act → World → Prop} {a : Act} {w : World} {l : List Oper} (C : World → Prop) (T : Nat → Value → World → Prop) (hpC : Pers C) (hpT : ∀ d v, Pers (T d v)) (hC : C (w.drewN 1)) (hm : P.follows .mixedOrders = true) (hB : factsB .any l.toArray l.length = true)
    (hQ : ∀ (d : Option Nat) v c a w, Q (.panic c) (a.put d v) w → Q (.panic c) a w)
    (h : wpFacts P l.toArray C T (fun E a' => ∀ w', C w' → Facts T E w' → Q .normal a' w') l (fun _ _ => False) a) : (Code.region id l.toArray true).wp P Q a w := by
  simp only [factsB, Bool.and_eq_true] at hB
  obtain ⟨hsel, hB⟩ := hB
  have inv0 : HeadInv .any l.toArray l.length (Array.replicate l.length false) :=
    ⟨by simp, fun j oj _ hl => (by rw [getD_replicate_false] at hl; cases hl), fun t h1 ht => absurd ht (by simpa using h1)⟩
  have H := wpAnyF_lex (P := P) (C := C) (T := T) (md := .any) (n := l.length) (g := 0) (late := []) hpC hpT hsel (fun listed inv i hin _ hun t ht hr => by
    obtain ⟨_, o, ho, _⟩ := mem_ready.1 hr
    have := (Array.getElem?_eq_some_iff.1 ho).1
    simp at this
    omega) l 0 _ _ a (fun j hj => by simp) (by simp) inv0 hB h
  refine wp_region_any hm ?_
  have := wpAny_of_headF (Q' := Q) (g := 0) hpC hpT (Region.noSelect_spec hsel) (by rfl) hQ (fun listed E a' w' hw' hF' hL => by
    unfold wpAny
    exact ⟨by simpa [Region.seqB] using hL.1, hL.2 w' hw' hF'⟩) _ _ _ _ (w.drewN 1) hC (fun _ _ h => h.elim) H
  rw [Nat.add_zero] at this
  simp only [List.size_toArray]
  exact this

/-! ### The steps -/
theorem wpFacts_mono {Q : SEnv → Act → Prop} (hQ : ∀ E E' a, (∀ d v, E d v → E' d v) → Q E a → Q E' a) : ∀ (l : List Oper) (E E' : SEnv) (a : Act), (∀ d v, E d v → E' d v) → wpFacts P ops C T Q l E a → wpFacts P ops C T Q l E' a
  | [], _, _, _, hs, h => hQ _ _ _ hs h
  | o :: l, E, E', a, hs, h => by
    refine ⟨fun hw w hC hN => h.1 hw w hC fun d v hd hv => hN d v hd (hs d v hv), fun v hv => ?_⟩
    refine wpFacts_mono hQ l (fNext ops o E a v) _ _ (fun d u hu => hu.imp (hs d u) id) (h.2 v ?_)
    rcases hv with ⟨hw, w, hC, hN, hv⟩ | hv
    · exact .inl ⟨hw, w, hC, fun d v hd hv => hN d v hd (hs d v hv), hv⟩
    · exact .inr hv

variable {Q : SEnv → Act → Prop} {a : Act} {o : Oper} {rest : List Oper} {E : SEnv}
def MonoQ (Q : SEnv → Act → Prop) : Prop := ∀ E E' a, (∀ d v, E d v → E' d v) → Q E a → Q E' a
theorem monoQ_end {K : Act → World → Prop} : MonoQ (fun E a' => ∀ w', C w' → Facts T E w' → K a' w') := fun _ _ _ hs h w' hC hF => h w' hC fun d v hv => hF d v (hs d v hv)

theorem wpFacts_nil (h : Q E a) : wpFacts P ops C T Q [] E a := h

/-- an operation whose value is known, and that bears no fact -/
theorem wpFacts_val (hgd : o.guard = none) (hQ : MonoQ Q) (hT : ∀ d, o.dst = some d → ∀ v w, T d v w) (v : Value) (hv : ∀ w, C w → ∃ w', Below w.heap.size w w' ∧ (execOp a.eval o).run P w = .ok (.value v) w')
    (h : ∀ K : Act → Prop, (∀ a, wpFacts P ops C T Q rest E a → K a) → K (a.put o.dst v)) : wpFacts P ops C T Q (o :: rest) E a := by
  have hw : Region.wanted o (yielded ops a.tmps) = true := by simp [Region.wanted, hgd]
  refine ⟨fun _ w hC _ => ?_, fun u hu => ?_⟩
  · obtain ⟨w', hb, e⟩ := hv w hC
    rw [e]; exact ⟨hb, fun d hd => hT d hd _ _⟩
  · rcases hu with ⟨_, w, hC, _, hu⟩ | ⟨hn, _⟩
    · obtain ⟨w', hb, e⟩ := hv w hC
      rw [e] at hu
      obtain ⟨rfl, _⟩ := hu
      exact wpFacts_mono hQ _ _ _ _ (fun d v h => .inl h) (h _ fun _ h => h)
    · rw [hw] at hn; cases hn

/-- an operation that hands back any of several values, or bears a fact -/
theorem wpFacts_some (hgd : o.guard = none) (d : Nat) (hd : o.dst = some d) (hv : ∀ w, C w → FNeed T ops o E w → ∃ v w', Below w.heap.size w w' ∧ T d v w' ∧ (execOp a.eval o).run P w = .ok (.value v) w')
    (h : ∀ v, (∃ w, T d v w) → wpFacts P ops C T Q rest (fun x u => E x u ∨ (x = d ∧ u = v)) (a.put o.dst v)) : wpFacts P ops C T Q (o :: rest) E a := by
  have hw : Region.wanted o (yielded ops a.tmps) = true := by simp [Region.wanted, hgd]
  refine ⟨fun _ w hC hN => ?_, fun u hu => ?_⟩
  · obtain ⟨v, w', hb, ht, e⟩ := hv w hC hN
    rw [e]; exact ⟨hb, fun d' hd' => by rw [hd] at hd'; cases hd'; exact ht⟩
  · have e : fNext ops o E a u = (fun x y => E x y ∨ (x = d ∧ y = u)) := by
      funext x y
      unfold fNext
      rw [hw, hd]
      refine propext (or_congr Iff.rfl ?_)
      constructor
      · rintro ⟨_, h1, h2⟩; cases h1; exact ⟨rfl, h2⟩
      · rintro ⟨rfl, h2⟩; exact ⟨rfl, rfl, h2⟩
    rw [e]
    rcases hu with ⟨_, w, hC, hN, hu⟩ | ⟨hn, _⟩
    · obtain ⟨v, w', hb, ht, e⟩ := hv w hC hN
      rw [e] at hu
      exact h u ⟨_, hu.2 d hd⟩
    · rw [hw] at hn; cases hn

/-- a call, by its contract -/
theorem wpFacts_call (hgd : o.guard = none) (d : Nat) (hd : o.dst = some d) (f : FuncId) (args : Array Value) (hr : ∀ w, (execOp a.eval o).run P w = .ok (.enter f args) w)
    (hc : ∀ w, C w → FNeed T ops o E w → Calls P f args w fun e w' => ∃ v, e = .returned v ∧ Below w.heap.size w w' ∧ T d v w')
    (h : ∀ v, (∃ w, T d v w) → wpFacts P ops C T Q rest (fun x u => E x u ∨ (x = d ∧ u = v)) (a.put o.dst v)) : wpFacts P ops C T Q (o :: rest) E a := by
  have hw : Region.wanted o (yielded ops a.tmps) = true := by simp [Region.wanted, hgd]
  refine ⟨fun _ w hC hN => ?_, fun u hu => ?_⟩
  · rw [hr w]
    exact ⟨Below.refl _ _, (hc w hC hN).mono fun e w' ⟨v, he, hb, ht⟩ => ⟨v, he, hb, fun d' hd' => by rw [hd] at hd'; cases hd'; exact ht⟩⟩
  · have e : fNext ops o E a u = (fun x y => E x y ∨ (x = d ∧ y = u)) := by
      funext x y
      unfold fNext
      rw [hw, hd]
      refine propext (or_congr Iff.rfl ?_)
      constructor
      · rintro ⟨_, h1, h2⟩; cases h1; exact ⟨rfl, h2⟩
      · rintro ⟨rfl, h2⟩; exact ⟨rfl, rfl, h2⟩
    rw [e]
    rcases hu with ⟨_, w, hC, hN, hu⟩ | ⟨hn, _⟩
    · rw [hr w] at hu
      obtain ⟨w', ht⟩ := hu
      exact h u ⟨w', ht d hd⟩
    · rw [hw] at hn; cases hn
end

/-- nothing that was there has turned: such a fact stays -/
theorem Pers.ext (w : World) : Pers (Ext w) := fun _ _ h hb => below_step h hb
theorem Pers.cells (p : Nat) (vs : List Value) : Pers (fun w => Cells w p vs) := fun _ _ h hb => h.kept hb
theorem Pers.true : Pers (fun _ => True) := fun _ _ _ _ => trivial
theorem Pers.ex {α : Sort _} {φ : α → World → Prop} (h : ∀ x, Pers (φ x)) : Pers (fun w => ∃ x, φ x w) := fun w w' ⟨x, hx⟩ hb => ⟨x, h x w w' hx hb⟩
theorem Pers.and {φ ψ : World → Prop} (h : Pers φ) (k : Pers ψ) : Pers (fun w => φ w ∧ ψ w) := fun w w' ⟨a, b⟩ hb => ⟨h w w' a hb, k w w' b hb⟩
theorem Pers.const (p : Prop) : Pers (fun _ => p) := fun _ _ h _ => h
end Go.Proofs.Ytkbdidpodcclfaa

/- The facts that slots bear, as a list; the steps for them. -/
namespace Go.Proofs.Ytkbdidpodcclfaa
open Go.RowKit
set_option linter.unusedVariables false

/-- a fact on a value and a world that stays true while nothing that was there turns -/
def Fct := {φ : Value → World → Prop // ∀ v, Pers (φ v)}
def TS : List (Nat × Fct) → Nat → Value → World → Prop
  | [], _, _, _ => True
  | (k, φ) :: l, d, v, w => (d = k → φ.1 v w) ∧ TS l d v w
theorem TS.pers : ∀ (l : List (Nat × Fct)) (d : Nat) (v : Value), Pers (TS l d v)
  | [], _, _ => Pers.true
  | (_, φ) :: l, d, v => fun w w' h hb => ⟨fun e => φ.2 v w w' (h.1 e) hb, TS.pers l d v w w' h.2 hb⟩
def TS.hasB : List (Nat × Fct) → Nat → Bool
  | [], _ => false
  | (k, _) :: l, d => d == k || TS.hasB l d
theorem TS.no : ∀ {l : List (Nat × Fct)} {d : Nat} (_ : TS.hasB l d = false) (v : Value) (w : World), TS l d v w
  | [], _, _, _, _ => trivial
  | (k, φ) :: l, d, h, v, w => by
    simp only [TS.hasB, Bool.or_eq_false_iff, beq_eq_false_iff_ne, ne_eq] at h
    exact ⟨fun e => absurd e h.1, TS.no h.2 v w⟩
def TS.findB : List (Nat × Fct) → Nat → Option Fct
  | [], _ => none
  | (k, φ) :: l, d => if d = k then (if TS.hasB l d then none else some φ) else TS.findB l d
theorem TS.mk : ∀ {l : List (Nat × Fct)} {d : Nat} {φ : Fct} (_ : TS.findB l d = some φ) {v : Value} {w : World} (_ : φ.1 v w), TS l d v w
  | [], _, _, h, _, _, _ => by cases h
  | (k, ψ) :: l, d, φ, h, v, w, hv => by
    unfold TS.findB at h
    split at h
    · rename_i e
      split at h
      · cases h
      · rename_i hb
        cases h
        exact ⟨fun _ => hv, TS.no (by simpa using hb) v w⟩
    · rename_i e
      exact ⟨fun e' => absurd e' e, TS.mk h hv⟩
theorem TS.get : ∀ {l : List (Nat × Fct)} {d : Nat} {φ : Fct} (_ : TS.findB l d = some φ) {v : Value} {w : World} (_ : TS l d v w), φ.1 v w
  | [], _, _, h, _, _, _ => by cases h
  | (k, ψ) :: l, d, φ, h, v, w, hv => by
    unfold TS.findB at h
    split at h
    · rename_i e
      split at h
      · cases h
      · cases h
        exact hv.1 e
    · exact TS.get h hv.2

/-- it is this value -/
def fIs (x : Value) : Fct := ⟨fun v _ => v = x, fun _ => Pers.const _⟩
/-- it points to a block, made since h, with these cells -/
def fBox (h : Nat) (vs : List Value) : Fct := ⟨fun v w => ∃ p, v = .pointer (some ⟨p, 0, none⟩) ∧ h ≤ p ∧ Cells w p vs, fun _ => Pers.ex fun _ => Pers.and (Pers.const _) (Pers.and (Pers.const _) (Pers.cells _ _))⟩
/-- it is a float, up to a not-a-number's bits -/
def fNum (k : FloatKind) (S : Nat) : Fct := ⟨fun v _ => ∃ r, cn k r = S ∧ v = .float k r, fun _ => Pers.const _⟩

theorem fact_of {l : List (Nat × Fct)} {E : SEnv} {w : World} {d : Nat} {φ : Fct} {v : Value} (hT : TS.findB l d = some φ) (hF : Facts (TS l) E w) (hE : E d v) : φ.1 v w := TS.get hT (hF d v hE)
theorem fact_box {l : List (Nat × Fct)} {E : SEnv} {w : World} {d h : Nat} {vs : List Value} {p : Nat} (hT : TS.findB l d = some (fBox h vs)) (hF : Facts (TS l) E w) (hE : E d (.pointer (some ⟨p, 0, none⟩))) : h ≤ p ∧ Cells w p vs := by
  obtain ⟨p', e, h1, h2⟩ := fact_of hT hF hE
  cases e
  exact ⟨h1, h2⟩

section
variable {P : Program} {ops : Array Oper} {C : World → Prop} {l : List (Nat × Fct)} {Q : SEnv → Act → Prop} {a : Act} {o : Oper} {rest : List Oper} {E : SEnv}

/-- an operation whose value is known -/
theorem wpF_val (hgd : o.guard = none) (hQ : MonoQ Q) (hT : ∀ d, o.dst = some d → TS.hasB l d = false) (v : Value) (hv : ∀ w, C w → (execOp a.eval o).run P w = .ok (.value v) w)
    (h : ∀ K : Act → Prop, (∀ a, wpFacts P ops C (TS l) Q rest E a → K a) → K (a.put o.dst v)) : wpFacts P ops C (TS l) Q (o :: rest) E a :=
  wpFacts_val hgd hQ (fun d hd v w => TS.no (hT d hd) v w) v (fun w hC => ⟨w, Below.refl _ _, hv w hC⟩) h

/-- an operation that makes a box -/
theorem wpF_alloc (hgd : o.guard = none) (d : Nat) (hd : o.dst = some d) (h0 : Nat) (vs : List Value) (t : TypeId) (hT : TS.findB l d = some (fBox h0 vs)) (hh : ∀ w, C w → h0 ≤ w.heap.size)
    (hv : ∀ w, (execOp a.eval o).run P w = .ok (.value (.pointer (some ⟨w.heap.size, 0, none⟩))) (w.alloc (.cells vs.toArray t)))
    (h : ∀ p : Nat, wpFacts P ops C (TS l) Q rest (fun x u => E x u ∨ (x = d ∧ u = .pointer (some ⟨p, 0, none⟩))) (a.put o.dst (.pointer (some ⟨p, 0, none⟩)))) : wpFacts P ops C (TS l) Q (o :: rest) E a :=
  wpFacts_some hgd d hd (fun w hC _ => ⟨_, _, below_al1 w _, TS.mk hT ⟨w.heap.size, rfl, hh w hC, Cells.made w vs t⟩, hv w⟩) (fun v ⟨_, hv⟩ => by
    obtain ⟨p, rfl, _⟩ := TS.get hT hv
    exact h p)

/-- a call whose value is known -/
theorem wpF_callV (hgd : o.guard = none) (d : Nat) (hd : o.dst = some d) (f : FuncId) (args : Array Value) (v : Value) (hT : TS.findB l d = some (fIs v)) (hr : ∀ w, (execOp a.eval o).run P w = .ok (.enter f args) w)
    (hc : ∀ w, C w → Calls P f args w fun e w' => e = .returned v ∧ Below w.heap.size w w')
    (h : wpFacts P ops C (TS l) Q rest (fun x u => E x u ∨ (x = d ∧ u = v)) (a.put o.dst v)) : wpFacts P ops C (TS l) Q (o :: rest) E a :=
  wpFacts_call hgd d hd f args hr (fun w hC _ => (hc w hC).mono fun e w' ⟨he, hb⟩ => ⟨v, he, hb, TS.mk hT rfl⟩) (fun u ⟨_, hu⟩ => by
    obtain rfl : u = v := TS.get hT hu
    exact h)

/-- a call that hands back a number -/
theorem wpF_callN (hgd : o.guard = none) (d : Nat) (hd : o.dst = some d) (f : FuncId) (args : Array Value) (k : FloatKind) (S : Nat) (hT : TS.findB l d = some (fNum k S)) (hr : ∀ w, (execOp a.eval o).run P w = .ok (.enter f args) w)
    (hc : ∀ w, C w → Calls P f args w fun e w' => ∃ r, cn k r = S ∧ e = .returned (.float k r) ∧ Below w.heap.size w w')
    (h : ∀ r, cn k r = S → wpFacts P ops C (TS l) Q rest (fun x u => E x u ∨ (x = d ∧ u = .float k r)) (a.put o.dst (.float k r))) : wpFacts P ops C (TS l) Q (o :: rest) E a :=
  wpFacts_call hgd d hd f args hr (fun w hC _ => (hc w hC).mono fun e w' ⟨r, hS, he, hb⟩ => ⟨_, he, hb, TS.mk hT ⟨r, hS, rfl⟩⟩) (fun u ⟨_, hu⟩ => by
    obtain ⟨r, hr, rfl⟩ := TS.get hT hu
    exact h r hr)

/-- a call that bears a fact -/
theorem wpF_callF (hgd : o.guard = none) (d : Nat) (hd : o.dst = some d) (f : FuncId) (args : Array Value) (φ : Fct) (hT : TS.findB l d = some φ) (hr : ∀ w, (execOp a.eval o).run P w = .ok (.enter f args) w)
    (hc : ∀ w, C w → FNeed (TS l) ops o E w → Calls P f args w fun e w' => ∃ v, e = .returned v ∧ Below w.heap.size w w' ∧ φ.1 v w')
    (h : ∀ v, (∃ w, φ.1 v w) → wpFacts P ops C (TS l) Q rest (fun x u => E x u ∨ (x = d ∧ u = v)) (a.put o.dst v)) : wpFacts P ops C (TS l) Q (o :: rest) E a :=
  wpFacts_call hgd d hd f args hr (fun w hC hN => (hc w hC hN).mono fun e w' ⟨v, he, hb, ht⟩ => ⟨v, he, hb, TS.mk hT ht⟩) (fun u ⟨w, hu⟩ => h u ⟨w, TS.get hT hu⟩)

/-- an operation on floats -/
theorem wpF_farith (hgd : o.guard = none) (d : Nat) (hd : o.dst = some d) (op : BinOp) (t : TypeId) (x y : Operand) (t' : TypeId) (ho : o.op = .binOp op t x y t') (hop : isArith op = true) (k : FloatKind) (m n : Nat)
    (hx : a.eval x = .float k m) (hy : a.eval y = .float k n) (S : Nat) (hT : TS.findB l d = some (fNum k S)) (hS : fop op k (cn k m) (cn k n) = S) (h : ∀ r, cn k r = S → wpFacts P ops C (TS l) Q rest (fun x u => E x u ∨ (x = d ∧ u = .float k r)) (a.put o.dst (.float k r))) : wpFacts P ops C (TS l) Q (o :: rest) E a := by
  refine wpFacts_some hgd d hd (fun w hC _ => ?_) (fun v ⟨_, hv⟩ => by
    obtain ⟨r, hr, rfl⟩ := TS.get hT hv
    exact h r hr)
  obtain ⟨r, j, hr, hw⟩ := run_farith (P := P) op hop t k m n w
  refine ⟨_, _, below_drewN (Below.refl _ _) j, TS.mk hT ⟨r, hr.1.trans hS, rfl⟩, ?_⟩
  have hg : (eqGuard op t x y (.float k m) (.float k n)) = pure () := by
    cases op <;> simp [isArith] at hop <;> rfl
  unfold execOp
  simp only [ho, hx, hy, hg, Sem.run_bind, Sem.run_pure, Result.andThen_ok, hw]
end
end Go.Proofs.Ytkbdidpodcclfaa

/- What the walks of laws over rods that hand back a rod share. -/
namespace Go.Proofs.Ytkbdidpodcclfaa
open Go.RowKit
set_option linter.unusedVariables false

theorem RodAt.tur {S : Nat → Prop} {w w' : World} {p0 p1 p2 p3 : Nat} {r : RL} (h : RodAt w p0 p1 p2 p3 r) (t : Tur S w w') (hS : ∀ j, p0 ≤ j → j ≤ p3 → ¬ S j) : RodAt w' p0 p1 p2 p3 r := by
  have h1 := h.o01; have h2 := h.o12; have h3 := h.o23
  exact ⟨t.cells h.W (hS _ (by omega) (by omega)), t.cells h.E (hS _ (by omega) (by omega)), t.cells h.H (hS _ (by omega) (by omega)), t.cells h.T (hS _ (by omega) (by omega)), h.o01, h.o12, h.o23⟩
theorem eqFB32 (v v' : Value) (zs ys : List Nat) (w : World) (h : FRow w v zs) (h' : FRow w v' ys) (hs : SameList zs ys) : Calls Try.prog 25 #[v, v'] w (fun e w2 => e = .returned (.bool true) ∧ Below w.heap.size w w2) :=
  (eqF_any v v' zs ys w h h' hs).mono fun e w2 ⟨he, m, hm⟩ => ⟨he, by subst hm; exact below_drewN (Below.refl _ _) m⟩
abbrev ragV (a b c d : Value) : Value := .agg #[a, b, c, d]
/-- it is a rod whose lists lie in blocks of their own -/
def fRdAt (r : RL) : Fct := ⟨fun v w => ∃ p0 p1 p2 p3, v = ragV (sl p0 r.W) (sl p1 r.E) (sl p2 r.H) (sl p3 r.T) ∧ RodAt w p0 p1 p2 p3 r, fun _ => Pers.ex fun _ => Pers.ex fun _ => Pers.ex fun _ => Pers.ex fun _ => Pers.and (Pers.const _) (fun _ _ h hb => h.kept hb)⟩
theorem fact_needR {l : List (Nat × Fct)} {ops : Array Oper} {o : Oper} {E : SEnv} {w : World} {d : Nat} {φ : Fct} {v : Value} (hT : TS.findB l d = some φ) (hN : FNeed (TS l) ops o E w) (hd : (o.looksAt ops).contains d = true) (hE : E d v) : φ.1 v w :=
  TS.get hT (hN d v (by simpa using hd) hE)
theorem rod_at {r : RL} {p0 p1 p2 p3 : Nat} {w : World} (h : (fRdAt r).1 (ragV (sl p0 r.W) (sl p1 r.E) (sl p2 r.H) (sl p3 r.T)) w) : RodAt w p0 p1 p2 p3 r := by
  obtain ⟨q0, q1, q2, q3, e, hc⟩ := h
  simp [ragV, sl] at e
  obtain ⟨rfl, rfl, rfl, rfl⟩ := e
  exact hc
end Go.Proofs.Ytkbdidpodcclfaa
