/- Several texts in one, for a claim holds 60 files at most: Fl Fc Run Ord Num Ext Same Cell Fr Loose Sl SlC Bo Fin PosW Pos LooseB Pl Open3 OpenP In AllF FinL AllP PlV JRow RowI Jz Onl AppB OwnB MarkO Oin RowBo PX. -/
import Derived.WalkKit
import Derived.WalkLawsBesides
import Derived.Deep.Draws
import Derived.Test.YthfkmcpajookaaaRows
import Derived.ProofKit
import Derived.OpenShut
import Derived.ShutString
import Derived.ChangeOld
import Derived.Below
import Derived.Lib.Hide
import Derived.Deep.OwnRows
import Derived.Deep.Slices
import Derived.Deep.QuietTactic
import Derived.BigQuiet
import Derived.Lib.SmallJoins
import Derived.Deep.RegionHeld3
import Derived.Laws.OwnMore
import Derived.Lib.SliceRun

/- Plain facts on the model's floats: canonical bits (one not-a-number), operations on them, and the walk's rules that give a result up to the bits of a not-a-number. -/
namespace Go.Proofs.Ythfkmcpajookaaa
open Go

/-- is it a not-a-number -/
def nn (k : FloatKind) (b : Nat) : Bool := (k.decode b).isNaN
/-- the one not-a-number -/
def qn : FloatKind → Nat
  | .f32 => 0x7fc00000
  | .f64 => 0x7ff8000000000001
/-- canonical bits -/
def cn (k : FloatKind) (b : Nat) : Nat := if nn k b then qn k else b
/-- an operation on bits, with the one not-a-number -/
def fop (op : BinOp) (k : FloatKind) (x y : Nat) : Nat := (floatBits op k x y).getD (qn k)

theorem read_word (f : Ieee.Format) (neg : Bool) (r : Nat) (h : r ≤ f.infRung) : (f.read (f.word neg r)).isNaN = false := by
  have h1 := Ieee.Format.infRung_lt f
  have hs : 0 < f.signWeight := Nat.two_pow_pos _
  have e : f.word neg r % f.signWeight = r := by
    unfold Ieee.Format.word
    split
    · rw [Nat.add_mod_left, Nat.mod_eq_of_lt (by omega)]
    · exact Nat.mod_eq_of_lt (by omega)
  unfold Ieee.Format.read
  simp only [e]
  split
  · rfl
  · split
    · rfl
    · split
      · rfl
      · omega

theorem read_write (f : Ieee.Format) (d : Ieee.Datum) (h : d.isNaN = false) : (f.read (f.write d)).isNaN = false := by
  cases d with
  | number neg mag place =>
    show (f.read (f.nearest neg mag place)).isNaN = false
    unfold Ieee.Format.nearest
    split
    · exact read_word f neg 0 (Nat.zero_le _)
    · exact read_word f neg _ (Nat.min_le_right _ _)
  | infinity neg => exact read_word f neg _ (Nat.le_refl _)
  | nan neg t => simp [Ieee.Datum.isNaN] at h

theorem sum_num {x y d : Ieee.Datum} (h : x.sum y = some d) : d.isNaN = false := by
  cases x <;> cases y <;> simp [Ieee.Datum.sum] at h <;> (try (obtain ⟨_, rfl⟩ := h)) <;> (try subst h) <;> rfl

theorem product_num {x y d : Ieee.Datum} (h : x.product y = some d) : d.isNaN = false := by
  cases x <;> cases y <;> simp [Ieee.Datum.product] at h <;> (try (obtain ⟨_, rfl⟩ := h)) <;> (try subst h) <;> rfl

theorem quotient_num {n : Nat} {x y d : Ieee.Datum} (h : x.quotient n y = some d) : d.isNaN = false := by
  cases x <;> cases y <;> simp [Ieee.Datum.quotient] at h
  · rename_i s m i t k j
    by_cases hk : k = 0
    · by_cases hm : m = 0
      · simp [hk, hm] at h
      · simp [hk, hm] at h; subst h; rfl
    · simp [hk] at h; subst h; rfl
  all_goals (subst h; rfl)

theorem root_num {n : Nat} {x d : Ieee.Datum} (h : x.root n = some d) : d.isNaN = false := by
  cases x with
  | number s m i =>
    simp only [Ieee.Datum.root] at h
    split at h
    · cases h; rfl
    · split at h
      · cases h
      · cases h; rfl
  | infinity s => simp only [Ieee.Datum.root] at h; split at h <;> cases h; rfl
  | nan s t => simp [Ieee.Datum.root] at h

theorem floatBits_num {op : BinOp} {k : FloatKind} {x y r : Nat} (h : floatBits op k x y = some r) : nn k r = false := by
  unfold floatBits at h
  unfold nn FloatKind.decode
  cases op <;> simp only at h <;> first | (cases h; done) | skip
  all_goals
    simp only [Ieee.Format.add, Ieee.Format.sub, Ieee.Format.mul, Ieee.Format.div, Option.map_eq_some_iff] at h
    obtain ⟨d, hd, rfl⟩ := h
  · exact read_write _ _ (sum_num hd)
  · exact read_write _ _ (sum_num hd)
  · exact read_write _ _ (product_num hd)
  · exact read_write _ _ (quotient_num hd)

theorem nn_qn (k : FloatKind) : nn k (qn k) = true := by cases k <;> rfl

theorem cn_of_num {k : FloatKind} {b : Nat} (h : nn k b = false) : cn k b = b := by simp [cn, h]
theorem cn_of_nan {k : FloatKind} {b : Nat} (h : nn k b = true) : cn k b = qn k := by simp [cn, h]

theorem nn_cn (k : FloatKind) (b : Nat) : nn k (cn k b) = nn k b := by
  unfold cn; split
  · rename_i h; rw [nn_qn, h]
  · rfl
theorem cn_cn (k : FloatKind) (b : Nat) : cn k (cn k b) = cn k b := by
  have := nn_cn k b
  cases h : nn k b
  · rw [cn_of_num h, cn_of_num h]
  · rw [cn_of_nan h, cn_of_nan (nn_qn k)]

theorem decode_nan {k : FloatKind} {b : Nat} (h : nn k b = true) : ∃ s t, k.format.read b = .nan s t := by
  unfold nn FloatKind.decode at h
  cases e : k.format.read b <;> simp [e, Ieee.Datum.isNaN] at h
  exact ⟨_, _, rfl⟩

theorem floatBits_nan_left {op : BinOp} {k : FloatKind} {x y : Nat} (h : nn k x = true) : floatBits op k x y = none := by
  obtain ⟨s, t, e⟩ := decode_nan h
  unfold floatBits
  cases op <;> simp only <;> cases hy : k.format.read y <;> simp [Ieee.Format.add, Ieee.Format.sub, Ieee.Format.mul, Ieee.Format.div, e, hy, Ieee.Datum.sum, Ieee.Datum.product, Ieee.Datum.quotient]

theorem floatBits_nan_right {op : BinOp} {k : FloatKind} {x y : Nat} (h : nn k y = true) : floatBits op k x y = none := by
  obtain ⟨s, t, e⟩ := decode_nan h
  unfold floatBits
  cases op <;> simp only <;> cases hx : k.format.read x <;> simp [Ieee.Format.add, Ieee.Format.sub, Ieee.Format.mul, Ieee.Format.div, e, hx, Ieee.Datum.sum, Ieee.Datum.product, Ieee.Datum.quotient, Ieee.Datum.opposite]

theorem floatBits_cn (op : BinOp) (k : FloatKind) (x y : Nat) : floatBits op k (cn k x) (cn k y) = floatBits op k x y := by
  cases hx : nn k x
  · cases hy : nn k y
    · rw [cn_of_num hx, cn_of_num hy]
    · rw [floatBits_nan_right hy, floatBits_nan_right (by rw [nn_cn]; exact hy)]
  · rw [floatBits_nan_left hx, floatBits_nan_left (by rw [nn_cn]; exact hx)]

theorem order_cn (k : FloatKind) (x y : Nat) : k.format.order (cn k x) (cn k y) = k.format.order x y := by
  have L : ∀ a b, nn k a = true → k.format.order a b = none := fun a b h => by
    obtain ⟨s, t, e⟩ := decode_nan h
    cases hb : k.format.read b <;> simp [Ieee.Format.order, e, hb, Ieee.Datum.order]
  have R : ∀ a b, nn k b = true → k.format.order a b = none := fun a b h => by
    obtain ⟨s, t, e⟩ := decode_nan h
    cases ha : k.format.read a <;> simp [Ieee.Format.order, e, ha, Ieee.Datum.order]
  cases hx : nn k x
  · cases hy : nn k y
    · rw [cn_of_num hx, cn_of_num hy]
    · rw [R _ _ hy, R _ _ (by rw [nn_cn]; exact hy)]
  · rw [L _ _ hx, L _ _ (by rw [nn_cn]; exact hx)]

theorem order_self {k : FloatKind} {x : Nat} : k.format.order x x = if nn k x then none else some .eq := by
  unfold nn FloatKind.decode Ieee.Format.order
  cases k.format.read x with
  | number s m i => simp [Ieee.Datum.order, Ieee.Datum.isNaN, compare, compareOfLessAndEq]
  | infinity s => cases s <;> simp [Ieee.Datum.order, Ieee.Datum.isNaN, compare, compareOfLessAndEq]
  | nan s t => simp [Ieee.Datum.order, Ieee.Datum.isNaN]

/-- the bits that the tape gives for a not-a-number are one -/
theorem nan_cut (k : FloatKind) (q : Question) (t : Nat) (hq : ∀ t, q.cut t = (Question.nanBits k 0 0).cut t) : nn k (q.cut t) = true ∧ (Lit.float k (q.cut t)).wf = true := by
  rw [hq]
  cases k
  · have hm : t / 2 % (2 ^ 23 - 1) < 2 ^ 23 - 1 := Nat.mod_lt _ (by decide)
    have ht : t % 2 < 2 := Nat.mod_lt _ (by decide)
    simp only [Question.cut]
    generalize t / 2 % (2 ^ 23 - 1) = a at *
    generalize t % 2 = b at *
    have sw : Ieee.single.signWeight = 2147483648 := by decide
    have bn : Ieee.single.binade = 8388608 := by decide
    have ir : Ieee.single.infRung = 2139095040 := by decide
    have e : (b * 2 ^ 31 + 0x7f800000 + 1 + a) % 2147483648 = 0x7f800000 + 1 + a := by omega
    constructor
    · unfold nn FloatKind.decode FloatKind.format Ieee.Format.read
      simp only [sw, bn, ir, e]
      rw [if_neg (by omega), if_neg (by omega), if_neg (by omega)]
      rfl
    · simp [Lit.wf]; omega
  · have hm : t / 2 % (2 ^ 52 - 1) < 2 ^ 52 - 1 := Nat.mod_lt _ (by decide)
    have ht : t % 2 < 2 := Nat.mod_lt _ (by decide)
    simp only [Question.cut]
    generalize t / 2 % (2 ^ 52 - 1) = a at *
    generalize t % 2 = b at *
    have sw : Ieee.double.signWeight = 9223372036854775808 := by decide
    have bn : Ieee.double.binade = 4503599627370496 := by decide
    have ir : Ieee.double.infRung = 9218868437227405312 := by decide
    have e : (b * 2 ^ 63 + 0x7ff0000000000000 + 1 + a) % 9223372036854775808 = 0x7ff0000000000000 + 1 + a := by omega
    constructor
    · unfold nn FloatKind.decode FloatKind.format Ieee.Format.read
      simp only [sw, bn, ir, e]
      rw [if_neg (by omega), if_neg (by omega), if_neg (by omega)]
      rfl
    · simp [Lit.wf]; omega


def isArith : BinOp → Bool
  | .add | .sub | .mul | .quo => true
  | _ => false

/-- r are bits of the result of an operation -/
def FR (op : BinOp) (k : FloatKind) (m n r : Nat) : Prop := cn k r = fop op k (cn k m) (cn k n) ∧ (Lit.float k r).wf = true

theorem FR_some {op : BinOp} {k : FloatKind} {m n r : Nat} (h : floatBits op k m n = some r) : FR op k m n r :=
  ⟨by rw [fop, floatBits_cn, h, cn_of_num (floatBits_num h)]; rfl, floatBits_wf h⟩
theorem FR_none {op : BinOp} {k : FloatKind} {m n r : Nat} (h : floatBits op k m n = none) (hr : nn k r = true) (hw : (Lit.float k r).wf = true) : FR op k m n r :=
  ⟨by rw [fop, floatBits_cn, h, cn_of_nan hr]; rfl, hw⟩

@[go_sem] theorem run_store_float {P : Program} {w : World} {a : Addr} {m : Mode} (k : FloatKind) (b : Nat) : (store a (.float k b) m).run P w = stored P w a (.float k b) m := run_store P w a _ m rfl
@[go_sem] theorem run_store_complex {P : Program} {w : World} {a : Addr} {m : Mode} (k : FloatKind) (b c : Nat) : (store a (.complex k b c) m).run P w = stored P w a (.complex k b c) m := run_store P w a _ m rfl

section
variable {P : Program}
theorem run_choose {α : Type} (q : Question) (hq : q.forced = false) (f : Nat → α) (w : World) :
    (Sem.bind (choose q) fun t => Sem.pure (f t)).run P w = .ok (f (q.cut (w.tape w.drawn q))) (w.drewN 1) := by
  simp [choose, Sem.bind, Sem.run, hq]
  rfl

theorem run_farith (op : BinOp) (hop : isArith op = true) (t : TypeId) (k : FloatKind) (m n : Nat) (w : World) :
    ∃ r j, FR op k m n r ∧ (binOp op t (.float k m) (.float k n)).run P w = .ok (.float k r) (w.drewN j) := by
  cases h : floatBits op k m n with
  | some r => exact ⟨r, 0, FR_some h, run_float_arith w op t k m n r h⟩
  | none =>
    refine ⟨(Question.nanBits k m n).cut (w.tape w.drawn (.nanBits k m n)), 1, ?_, ?_⟩
    · have := nan_cut k (.nanBits k m n) (w.tape w.drawn (.nanBits k m n)) (by intro t; cases k <;> rfl)
      exact FR_none h this.1 this.2
    · have e : (binOp op t (.float k m) (.float k n)) = (Sem.bind (choose (.nanBits k m n)) fun t => Sem.pure (.float k t)) := by
        unfold floatBits at h
        cases op <;> simp [isArith] at hop <;> simp only at h <;> simp [binOp, Op.floatArith, h] <;> rfl
      rw [e]
      exact run_choose _ (by cases k <;> rfl) _ w

variable {ops : Array Oper} {Q : Exit → Act → World → Prop} {rest : List Oper} {o : Oper} {a : Act} {w : World}
theorem wp_farith {K : Act → World → Prop} (op : BinOp) (t : TypeId) (x y : Operand) (t' : TypeId) (ho : o.op = .binOp op t x y t') (hop : isArith op = true) (k : FloatKind) (m n : Nat)
    (hx : a.eval x = .float k m) (hy : a.eval y = .float k n) (h : ∀ r j, FR op k m n r → K (a.put o.dst (.float k r)) (w.drewN j)) : o.wp P a w K Q := by
  obtain ⟨r, j, hr, hw⟩ := run_farith (P := P) op hop t k m n w
  unfold Oper.wp execOp
  have hg : (eqGuard op t x y (.float k m) (.float k n)) = pure () := by
    cases op <;> simp [isArith] at hop <;> rfl
  simp only [ho, hx, hy, hg, Sem.run_bind, Sem.run_pure, Result.andThen_ok, hw]
  exact h r j hr

theorem wpList_farith (hgd : o.guard = none) (op : BinOp) (t : TypeId) (x y : Operand) (t' : TypeId) (ho : o.op = .binOp op t x y t') (hop : isArith op = true) (k : FloatKind) (m n : Nat)
    (hx : a.eval x = .float k m) (hy : a.eval y = .float k n) (h : ∀ r j, FR op k m n r → wpList P ops Q rest (a.put o.dst (.float k r)) (w.drewN j)) : wpList P ops Q (o :: rest) a w :=
  wpList_plain hgd fun _ hK => wp_farith op t x y t' ho hop k m n hx hy fun r j hr => hK _ _ (h r j hr)

end
end Go.Proofs.Ythfkmcpajookaaa

/- Conversions between the two float kinds, and the walk's rules for them. -/
namespace Go.Proofs.Ythfkmcpajookaaa
open Go

theorem read_word_fin (f : Ieee.Format) (neg : Bool) (r : Nat) (h : r < f.infRung) : (f.read (f.word neg r)).isInfinity = false := by
  have h1 := Ieee.Format.infRung_lt f
  have hs : 0 < f.signWeight := Nat.two_pow_pos _
  have e : f.word neg r % f.signWeight = r := by
    unfold Ieee.Format.word
    split
    · rw [Nat.add_mod_left, Nat.mod_eq_of_lt (by omega)]
    · exact Nat.mod_eq_of_lt (by omega)
  unfold Ieee.Format.read
  simp only [e]
  split
  · rfl
  · first | rfl | (rw [if_pos h]; rfl)

theorem read_single_bounds {b : Nat} {s : Bool} {m : Nat} {e : Int} (h : Ieee.single.read b = .number s m e) : m < 2 ^ 24 ∧ -149 ≤ e ∧ e ≤ 104 := by
  have sw : Ieee.single.signWeight = 2147483648 := by decide
  have bn : Ieee.single.binade = 8388608 := by decide
  have ir : Ieee.single.infRung = 2139095040 := by decide
  have lp : Ieee.single.leastPlace = -149 := by decide
  unfold Ieee.Format.read at h
  simp only [sw, bn, ir, lp] at h
  split at h
  · simp only [Ieee.Datum.number.injEq] at h
    omega
  · split at h
    · simp only [Ieee.Datum.number.injEq] at h
      omega
    · split at h <;> simp at h

theorem cut_zero (neg : Bool) (n : Nat) : Ieee.Toward.even.cut neg n 0 = n := by
  unfold Ieee.Toward.cut
  simp [Nat.mod_one]

theorem up_num (T K : Nat) (hT : T ≤ 1149) (hK : K < 9007199254740992) : min (T * 4503599627370496 + K) 9218868437227405312 < 9218868437227405312 :=
  Nat.lt_of_le_of_lt (Nat.min_le_left _ _) (by omega)

theorem up_kept (m : Nat) (hl : m.log2 < 24) : m * 2 ^ (52 - m.log2) < 9007199254740992 := by
  have hup : m < 2 ^ (m.log2 + 1) := Nat.lt_log2_self
  have h : m * 2 ^ (52 - m.log2) < 2 ^ (m.log2 + 1) * 2 ^ (52 - m.log2) := Nat.mul_lt_mul_of_pos_right hup (Nat.two_pow_pos _)
  rw [← Nat.pow_add, show m.log2 + 1 + (52 - m.log2) = 53 by omega] at h
  exact h

theorem double_inf : Ieee.double.infRung = 9218868437227405312 := by decide
theorem double_binade : Ieee.double.binade = 4503599627370496 := by decide
theorem double_least : Ieee.double.leastPlace = -1074 := by decide
theorem double_fraction : (Ieee.double.fractionBits : Int) = 52 := by decide

theorem up_nearest (s : Bool) (m : Nat) (e : Int) (hz : m ≠ 0) (hl : m.log2 < 24) (h0 : -149 ≤ e) (h1 : e ≤ 104) :
    ∃ r, Ieee.double.nearest s m e = Ieee.double.word s r ∧ r < 9218868437227405312 := by
  have e1 : max (e + (m.log2 : Int) - 52) (-1074) = e + (m.log2 : Int) - 52 := by omega
  have e2 : (e + (m.log2 : Int) - 52 - e).toNat = 0 := by omega
  have e3 : (e - (e + (m.log2 : Int) - 52)).toNat = 52 - m.log2 := by omega
  have e4 : (e + (m.log2 : Int) - 52 - -1074).toNat ≤ 1149 := by omega
  refine ⟨min ((e + (m.log2 : Int) - 52 - -1074).toNat * 4503599627370496 + m * 2 ^ (52 - m.log2)) 9218868437227405312, ?_, up_num _ _ e4 (up_kept m hl)⟩
  unfold Ieee.Format.nearest
  rw [if_neg hz]
  simp only [double_least, double_fraction, double_binade, double_inf, e1, e2, e3, cut_zero, Nat.shiftLeft_eq]

theorem up_fits (s : Bool) (m : Nat) (e : Int) (hm : m < 2 ^ 24) (h0 : -149 ≤ e) (h1 : e ≤ 104) : (Ieee.double.read (Ieee.double.write (.number s m e))).isInfinity = false := by
  show (Ieee.double.read (Ieee.double.nearest s m e)).isInfinity = false
  by_cases hz : m = 0
  · subst hz
    exact read_word_fin Ieee.double s 0 (by rw [double_inf]; omega)
  · obtain ⟨r, er, hr⟩ := up_nearest s m e hz ((Nat.log2_lt hz).2 hm) h0 h1
    rw [er]
    exact read_word_fin _ _ _ (by rw [double_inf]; exact hr)

theorem up_some {b : Nat} (h : nn .f32 b = false) : ∃ r, floatToFloatBits .f32 b .f64 = some r := by
  unfold floatToFloatBits
  rw [if_neg (by decide)]
  unfold nn at h
  cases e : FloatKind.f32.decode b with
  | nan s t => rw [e] at h; simp [Ieee.Datum.isNaN] at h
  | infinity s => exact ⟨_, rfl⟩
  | number s m i =>
    obtain ⟨hm, h0, h1⟩ := read_single_bounds (show Ieee.single.read b = _ from e)
    have hf := up_fits s m i hm h0 h1
    simp only
    rw [if_neg (by rw [show FloatKind.f64.decode (FloatKind.f64.encode (.number s m i)) = Ieee.double.read (Ieee.double.write (.number s m i)) from rfl, hf]; simp)]
    exact ⟨_, rfl⟩

theorem ftf_num {s d : FloatKind} {b r : Nat} (hsd : s ≠ d) (h : floatToFloatBits s b d = some r) : nn d r = false := by
  unfold floatToFloatBits at h
  rw [if_neg hsd] at h
  split at h
  · cases h
  · cases h; exact read_write _ _ rfl
  · split at h
    · cases h
    · cases h; exact read_write _ _ rfl

theorem ftf_nan {s d : FloatKind} {b : Nat} (hsd : s ≠ d) (h : nn s b = true) : floatToFloatBits s b d = none := by
  obtain ⟨sg, t, e⟩ := decode_nan h
  unfold floatToFloatBits FloatKind.decode
  rw [if_neg hsd, e]

/-- a 32-bit number made a 64-bit one -/
def cvu (b : Nat) : Nat := (floatToFloatBits .f32 b .f64).getD (qn .f64)
/-- narrowing, of what is not too great -/
def cvd (b : Nat) : Nat := (floatToFloatBits .f64 b .f32).getD (qn .f32)
/-- too great to be narrowed -/
def ovf (b : Nat) : Bool := !nn .f64 b && (floatToFloatBits .f64 b .f32).isNone

def UR (m r : Nat) : Prop := cn .f64 r = cvu (cn .f32 m) ∧ (Lit.float .f64 r).wf = true
def DR (m r : Nat) : Prop := (ovf (cn .f64 m) = false → cn .f32 r = cvd (cn .f64 m)) ∧ (Lit.float .f32 r).wf = true

section
variable {P : Program}
theorem nan_conv_wf (k : FloatKind) (b t : Nat) : nn k ((Question.nanConv k b).cut t) = true ∧ (Lit.float k ((Question.nanConv k b).cut t)).wf = true :=
  nan_cut k (.nanConv k b) t (by intro t; cases k <;> rfl)

theorem run_cvt_nan {S D : TypeId} {s d : FloatKind} (hs : P.underlying S = some (.float s)) (hd : P.underlying D = some (.float d)) (hsd : s ≠ d) (b : Nat) (w : World) (h : nn s b = true) :
    (convert S D (.float s b)).run P w = .ok (.float d ((Question.nanConv d b).cut (w.tape w.drawn (.nanConv d b)))) (w.drewN 1) := by
  obtain ⟨sg, t, e⟩ := decode_nan h
  have e' : (convert S D (.float s b)).run P w = (Sem.bind (choose (.nanConv d b)) fun t => Sem.pure (.float d t)).run P w := by
    simp only [convert, Sem.run_bind, run_underlying hs, run_underlying hd, Result.andThen_ok, Conv.floatToFloat, if_neg hsd]
    rw [show s.decode b = .nan sg t from e]
    rfl
  rw [e']
  exact run_choose _ (by cases d <;> rfl) _ w

theorem run_up {S D : TypeId} (hs : P.underlying S = some (.float .f32)) (hd : P.underlying D = some (.float .f64)) (m : Nat) (w : World) :
    ∃ r j, UR m r ∧ (convert S D (.float .f32 m)).run P w = .ok (.float .f64 r) (w.drewN j) := by
  cases h : nn .f32 m
  · obtain ⟨r, hr⟩ := up_some h
    refine ⟨r, 0, ⟨?_, ?_⟩, run_convert_float_float w S D .f32 .f64 m r (by rw [hs]; rfl) hd hr⟩
    · rw [cn_of_num h, cn_of_num (ftf_num (by decide) hr), cvu, hr]; rfl
    · unfold floatToFloatBits at hr
      rw [if_neg (by decide)] at hr
      split at hr
      · cases hr
      · cases hr; exact encode_wf ..
      · split at hr
        · cases hr
        · cases hr; exact encode_wf ..
  · have hc := nan_conv_wf .f64 m (w.tape w.drawn (.nanConv .f64 m))
    refine ⟨_, 1, ⟨?_, hc.2⟩, run_cvt_nan hs hd (by decide) m w h⟩
    rw [cn_of_nan hc.1, cn_of_nan h, cvu, ftf_nan (by decide) (nn_qn _)]; rfl

theorem run_down {S D : TypeId} (hs : P.underlying S = some (.float .f64)) (hd : P.underlying D = some (.float .f32)) (m : Nat) (w : World) :
    ∃ r j, DR m r ∧ (convert S D (.float .f64 m)).run P w = .ok (.float .f32 r) (w.drewN j) := by
  cases h : nn .f64 m
  · cases hr : floatToFloatBits .f64 m .f32 with
    | some r =>
      refine ⟨r, 0, ⟨fun _ => ?_, ?_⟩, run_convert_float_float w S D .f64 .f32 m r (by rw [hs]; rfl) hd hr⟩
      · rw [cn_of_num h, cn_of_num (ftf_num (by decide) hr), cvd, hr]; rfl
      · unfold floatToFloatBits at hr
        rw [if_neg (by decide)] at hr
        split at hr
        · cases hr
        · cases hr; exact encode_wf ..
        · split at hr
          · cases hr
          · cases hr; exact encode_wf ..
    | none =>
      refine ⟨(Question.floatToFloat m).cut (w.tape w.drawn (.floatToFloat m)), 1, ⟨fun ho => ?_, ?_⟩, ?_⟩
      · rw [cn_of_num h] at ho
        simp [ovf, h, hr] at ho
      · have : (Question.floatToFloat m).cut (w.tape w.drawn (.floatToFloat m)) < 2 ^ 32 := Nat.mod_lt _ (by decide)
        simpa [Lit.wf] using this
      · have e' : (convert S D (.float .f64 m)).run P w = (Sem.bind (choose (.floatToFloat m)) fun t => Sem.pure (.float .f32 t)).run P w := by
          simp only [convert, Sem.run_bind, run_underlying hs, run_underlying hd, Result.andThen_ok, Conv.floatToFloat]
          rw [if_neg (by decide)]
          unfold floatToFloatBits at hr
          rw [if_neg (by decide)] at hr
          split at hr
          · rename_i he; unfold nn at h; rw [he] at h; simp [Ieee.Datum.isNaN] at h
          · cases hr
          · rename_i sg mm ee he
            split at hr
            · rename_i hi
              rw [he]
              simp only [hi, if_true]
              rfl
            · cases hr
        rw [e']
        exact run_choose _ rfl _ w
  · have hc := nan_conv_wf .f32 m (w.tape w.drawn (.nanConv .f32 m))
    refine ⟨_, 1, ⟨fun _ => ?_, hc.2⟩, run_cvt_nan hs hd (by decide) m w h⟩
    rw [cn_of_nan hc.1, cn_of_nan h, cvd, ftf_nan (by decide) (nn_qn _)]; rfl

variable {ops : Array Oper} {Q : Exit → Act → World → Prop} {rest : List Oper} {o : Oper} {a : Act} {w : World}
theorem wp_up {K : Act → World → Prop} {S D : TypeId} (hs : P.underlying S = some (.float .f32)) (hd : P.underlying D = some (.float .f64)) (x : Operand) (ho : o.op = .convert S D x) (m : Nat)
    (hx : a.eval x = .float .f32 m) (h : ∀ r j, UR m r → K (a.put o.dst (.float .f64 r)) (w.drewN j)) : o.wp P a w K Q := by
  obtain ⟨r, j, hr, hw⟩ := run_up hs hd m w
  unfold Oper.wp execOp
  simp only [ho, hx, Sem.run_bind, Sem.run_pure, Result.andThen_ok, hw]
  exact h r j hr
theorem wpList_up (hgd : o.guard = none) {S D : TypeId} (hs : P.underlying S = some (.float .f32)) (hd : P.underlying D = some (.float .f64)) (x : Operand) (ho : o.op = .convert S D x) (m : Nat)
    (hx : a.eval x = .float .f32 m) (h : ∀ r j, UR m r → wpList P ops Q rest (a.put o.dst (.float .f64 r)) (w.drewN j)) : wpList P ops Q (o :: rest) a w :=
  wpList_plain hgd fun _ hK => wp_up hs hd x ho m hx fun r j hr => hK _ _ (h r j hr)
theorem wp_down {K : Act → World → Prop} {S D : TypeId} (hs : P.underlying S = some (.float .f64)) (hd : P.underlying D = some (.float .f32)) (x : Operand) (ho : o.op = .convert S D x) (m : Nat)
    (hx : a.eval x = .float .f64 m) (h : ∀ r j, DR m r → K (a.put o.dst (.float .f32 r)) (w.drewN j)) : o.wp P a w K Q := by
  obtain ⟨r, j, hr, hw⟩ := run_down hs hd m w
  unfold Oper.wp execOp
  simp only [ho, hx, Sem.run_bind, Sem.run_pure, Result.andThen_ok, hw]
  exact h r j hr
theorem wpList_down (hgd : o.guard = none) {S D : TypeId} (hs : P.underlying S = some (.float .f64)) (hd : P.underlying D = some (.float .f32)) (x : Operand) (ho : o.op = .convert S D x) (m : Nat)
    (hx : a.eval x = .float .f64 m) (h : ∀ r j, DR m r → wpList P ops Q rest (a.put o.dst (.float .f32 r)) (w.drewN j)) : wpList P ops Q (o :: rest) a w :=
  wpList_plain hgd fun _ hK => wp_down hs hd x ho m hx fun r j hr => hK _ _ (h r j hr)
end
end Go.Proofs.Ythfkmcpajookaaa

/- What every frame of this seat uses: the program's closed facts, and the post of a law's walk. -/
namespace Go.Proofs.Ythfkmcpajookaaa
open Go.RowKit

theorem own : ownKnob Try.prog.godebug = none := by kernel_rfl
theorem laidOut : laidOutB Try.prog = true := by kernel_rfl

/-- the law answers true, and nothing that was there has turned -/
def Tru (w : World) (e : Ending) (w' : World) : Prop := e = .returned (.bool true) ∧ Below w.heap.size w w'

theorem below_drewN {B : Nat} {a w : World} (h : Below B a w) (n : Nat) : Below B a (w.drewN n) := ⟨h.os, h.tape, h.output, h.size, h.block⟩
theorem below_undrew {B : Nat} {a w : World} {n : Nat} (h : Below B (a.drewN n) w) : Below B a w := ⟨h.os, h.tape, h.output, h.size, h.block⟩
theorem below_step {w w1 w2 : World} (h : Below w.heap.size w w1) (h2 : Below w1.heap.size w1 w2) : Below w.heap.size w w2 := h.trans (h2.mono h.size)
theorem Tru.below {w w' : World} (h : Below w.heap.size w w') : Tru w (.returned (.bool true)) w' := ⟨rfl, h⟩
theorem Tru.same {w : World} : Tru w (.returned (.bool true)) w := ⟨rfl, Below.refl _ _⟩
theorem Tru.drewN {w : World} {n : Nat} : Tru w (.returned (.bool true)) (w.drewN n) := ⟨rfl, below_drewN (Below.refl _ _) n⟩

end Go.Proofs.Ythfkmcpajookaaa

/- The order of two floats as the order of two integers that are read off their bits. -/
namespace Go.Proofs.Ythfkmcpajookaaa

def mg (f : Ieee.Format) (r : Nat) : Nat := if r < f.binade then r else f.binade + r % f.binade
def ex (f : Ieee.Format) (r : Nat) : Nat := r / f.binade - 1
def vl (f : Ieee.Format) (r : Nat) : Nat := mg f r * 2 ^ ex f r

theorem binade_pos (f : Ieee.Format) : 0 < f.binade := Nat.two_pow_pos _

theorem vl_lt (f : Ieee.Format) {a b : Nat} (h : a < b) : vl f a < vl f b := by
  have hB := binade_pos f
  unfold vl mg ex
  generalize f.binade = B at *
  have ma := Nat.mod_lt a hB
  have mb := Nat.mod_lt b hB
  have da := Nat.div_add_mod a B
  have db := Nat.div_add_mod b B
  by_cases h1 : a < B
  · have ea : a / B = 0 := Nat.div_eq_of_lt h1
    rw [if_pos h1, ea]
    by_cases h2 : b < B
    · rw [if_pos h2, Nat.div_eq_of_lt h2]; simpa using h
    · rw [if_neg h2]
      have p : 0 < 2 ^ (b / B - 1) := Nat.two_pow_pos _
      have : B + b % B ≤ (B + b % B) * 2 ^ (b / B - 1) := Nat.le_mul_of_pos_right _ p
      simp only [Nat.zero_sub, Nat.pow_zero, Nat.mul_one]
      omega
  · have h2 : ¬ b < B := by omega
    rw [if_neg h1, if_neg h2]
    have qa : 1 ≤ a / B := (Nat.one_le_div_iff hB).2 (by omega)
    have qle : a / B ≤ b / B := Nat.div_le_div_right (by omega)
    by_cases hq : a / B = b / B
    · rw [hq] at da ⊢
      have : a % B < b % B := by omega
      exact Nat.mul_lt_mul_of_pos_right (by omega) (Nat.two_pow_pos _)
    · have l1 : (B + a % B) * 2 ^ (a / B - 1) < (B + B) * 2 ^ (a / B - 1) := Nat.mul_lt_mul_of_pos_right (by omega) (Nat.two_pow_pos _)
      have l2 : (B + B) * 2 ^ (a / B - 1) = B * 2 ^ (a / B) := by
        rw [← Nat.two_mul, Nat.mul_comm 2 B, Nat.mul_assoc, ← Nat.pow_succ']
        congr 2; omega
      have l3 : B * 2 ^ (a / B) ≤ B * 2 ^ (b / B - 1) := Nat.mul_le_mul_left _ (Nat.pow_le_pow_right (by decide) (by omega))
      have l4 : B * 2 ^ (b / B - 1) ≤ (B + b % B) * 2 ^ (b / B - 1) := Nat.mul_le_mul_right _ (by omega)
      omega

theorem vl_lt_iff (f : Ieee.Format) (a b : Nat) : vl f a < vl f b ↔ a < b := by
  refine ⟨fun h => ?_, vl_lt f⟩
  rcases Nat.lt_trichotomy a b with h1 | h1 | h1
  · exact h1
  · subst h1; omega
  · have := vl_lt f h1; omega

theorem scaled (f : Ieee.Format) (r n : Nat) (h : n ≤ ex f r) : (mg f r <<< (ex f r - n)) * 2 ^ n = vl f r := by
  unfold vl
  rw [Nat.shiftLeft_eq, Nat.mul_assoc, ← Nat.pow_add]
  congr 2; omega

/-- the integer that a word's place in the order is -/
def key (f : Ieee.Format) (x : Nat) : Int := if x / f.signWeight % 2 == 1 then -((x % f.signWeight : Nat) : Int) else ((x % f.signWeight : Nat) : Int)
def notNan (f : Ieee.Format) (x : Nat) : Prop := x % f.signWeight ≤ f.infRung

theorem read_fin (f : Ieee.Format) (x : Nat) (h : x % f.signWeight < f.infRung) :
    f.read x = .number (x / f.signWeight % 2 == 1) (mg f (x % f.signWeight)) (f.leastPlace + (ex f (x % f.signWeight) : Nat)) := by
  unfold Ieee.Format.read mg ex
  dsimp only
  by_cases h1 : x % f.signWeight < f.binade
  · rw [if_pos h1, if_pos h1, Nat.div_eq_of_lt h1]; simp
  · rw [if_neg h1, if_neg h1, if_pos h]

theorem read_inf (f : Ieee.Format) (x : Nat) (h : x % f.signWeight = f.infRung) (hb : f.binade ≤ f.infRung) : f.read x = .infinity (x / f.signWeight % 2 == 1) := by
  unfold Ieee.Format.read
  dsimp only
  rw [if_neg (by omega), if_neg (by omega), if_pos h]

theorem compare_congr {x y x' y' : Int} (h1 : x < y ↔ x' < y') (h2 : x = y ↔ x' = y') : compare x y = compare x' y' := by
  simp only [compare, compareOfLessAndEq]
  by_cases a : x < y
  · rw [if_pos a, if_pos (h1.1 a)]
  · rw [if_neg a, if_neg (fun b => a (h1.2 b))]
    by_cases c : x = y
    · rw [if_pos c, if_pos (h2.1 c)]
    · rw [if_neg c, if_neg (fun b => c (h2.2 b))]

theorem order_key (f : Ieee.Format) (hb : f.binade ≤ f.infRung) (hi : 0 < f.infRung) (x y : Nat) (hx : notNan f x) (hy : notNan f y) : f.order x y = some (compare (key f x) (key f y)) := by
  unfold notNan at hx hy
  unfold Ieee.Format.order key
  generalize hs : (x / f.signWeight % 2 == 1) = s
  generalize ht : (y / f.signWeight % 2 == 1) = t
  by_cases h1 : x % f.signWeight < f.infRung
  · rw [read_fin f x h1, hs]
    generalize x % f.signWeight = a at *
    by_cases h2 : y % f.signWeight < f.infRung
    · rw [read_fin f y h2, ht]
      generalize y % f.signWeight = b at *
      simp only [Ieee.Datum.order]
      congr 1
      have e1 : (f.leastPlace + (ex f a : Int) - min (f.leastPlace + (ex f a : Int)) (f.leastPlace + (ex f b : Int))).toNat = ex f a - min (ex f a) (ex f b) := by omega
      have e2 : (f.leastPlace + (ex f b : Int) - min (f.leastPlace + (ex f a : Int)) (f.leastPlace + (ex f b : Int))).toNat = ex f b - min (ex f a) (ex f b) := by omega
      rw [e1, e2]
      have sa := scaled f a (min (ex f a) (ex f b)) (Nat.min_le_left _ _)
      have sb := scaled f b (min (ex f a) (ex f b)) (Nat.min_le_right _ _)
      have hp : 0 < 2 ^ min (ex f a) (ex f b) := Nat.two_pow_pos _
      have v1 := vl_lt_iff f a b
      have v2 := vl_lt_iff f b a
      have z1 := vl_lt_iff f 0 a
      have z2 := vl_lt_iff f 0 b
      have v0 : vl f 0 = 0 := by unfold vl mg; rw [if_pos (binade_pos f)]; simp
      rw [v0] at z1 z2
      rw [← sa, ← sb] at v1 v2
      rw [← sa] at z1
      rw [← sb] at z2
      simp only [Ieee.signed]
      generalize mg f a <<< (ex f a - min (ex f a) (ex f b)) = A at *
      generalize mg f b <<< (ex f b - min (ex f a) (ex f b)) = C at *
      generalize 2 ^ min (ex f a) (ex f b) = D at *
      have w1 : A < C ↔ a < b := by rw [← v1]; exact ⟨fun h => Nat.mul_lt_mul_of_pos_right h hp, fun h => Nat.lt_of_mul_lt_mul_right h⟩
      have w2 : C < A ↔ b < a := by rw [← v2]; exact ⟨fun h => Nat.mul_lt_mul_of_pos_right h hp, fun h => Nat.lt_of_mul_lt_mul_right h⟩
      have w3 : 0 < A ↔ 0 < a := by rw [← z1]; exact ⟨fun h => Nat.mul_pos h hp, fun h => Nat.pos_of_mul_pos_right h⟩
      have w4 : 0 < C ↔ 0 < b := by rw [← z2]; exact ⟨fun h => Nat.mul_pos h hp, fun h => Nat.pos_of_mul_pos_right h⟩
      clear v1 v2 z1 z2 sa sb e1 e2 hs ht h1 h2 hx hy
      apply compare_congr <;> cases s <;> cases t <;> simp only [if_true, if_false, Bool.false_eq_true] <;> omega
    · have h3 : y % f.signWeight = f.infRung := by omega
      rw [read_inf f y h3 hb, ht, h3]
      simp only [Ieee.Datum.order]
      congr 1
      cases t
      · simp only [Bool.false_eq_true, if_false, compare, compareOfLessAndEq]
        rw [if_pos (by split <;> omega)]
      · simp only [if_true, compare, compareOfLessAndEq]
        rw [if_neg (by split <;> omega), if_neg (by split <;> omega)]
  · have h3 : x % f.signWeight = f.infRung := by omega
    rw [read_inf f x h3 hb, hs, h3]
    by_cases h2 : y % f.signWeight < f.infRung
    · rw [read_fin f y h2, ht]
      simp only [Ieee.Datum.order]
      congr 1
      cases s
      · simp only [Bool.false_eq_true, if_false, compare, compareOfLessAndEq]
        rw [if_neg (by split <;> omega), if_neg (by split <;> omega)]
      · simp only [if_true, compare, compareOfLessAndEq]
        rw [if_pos (by split <;> omega)]
    · have h4 : y % f.signWeight = f.infRung := by omega
      rw [read_inf f y h4 hb, ht, h4]
      simp only [Ieee.Datum.order]
      congr 1
      have hI : (0 : Int) < (f.infRung : Int) := by omega
      generalize (f.infRung : Int) = I at *
      cases s <;> cases t
      · show Ordering.eq = compare I I
        simp only [compare, compareOfLessAndEq]
        rw [if_neg (by omega), if_pos trivial]
      · show Ordering.gt = compare I (-I)
        simp only [compare, compareOfLessAndEq]
        rw [if_neg (by omega), if_neg (by omega)]
      · show Ordering.lt = compare (-I) I
        simp only [compare, compareOfLessAndEq]
        rw [if_pos (by omega)]
      · show Ordering.eq = compare (-I) (-I)
        simp only [compare, compareOfLessAndEq]
        rw [if_neg (by omega), if_pos trivial]

theorem nn_iff (k : FloatKind) (x : Nat) : nn k x = false ↔ notNan k.format x := by
  unfold nn notNan FloatKind.decode
  have hb : k.format.binade ≤ k.format.infRung := by cases k <;> decide
  constructor
  · intro h
    by_cases h1 : x % k.format.signWeight ≤ k.format.infRung
    · exact h1
    · exfalso
      unfold Ieee.Format.read at h
      dsimp only at h
      rw [if_neg (by omega), if_neg (by omega), if_neg (by omega)] at h
      simp [Ieee.Datum.isNaN] at h
  · intro h
    by_cases h1 : x % k.format.signWeight < k.format.infRung
    · rw [read_fin _ x h1]; rfl
    · rw [read_inf _ x (by omega) hb]; rfl

/-- the order of two numbers of one kind -/
theorem ord_key (k : FloatKind) (x y : Nat) : k.format.order x y = if nn k x || nn k y then none else some (compare (key k.format x) (key k.format y)) := by
  have hb : k.format.binade ≤ k.format.infRung := by cases k <;> decide
  have hi : 0 < k.format.infRung := by cases k <;> decide
  cases hx : nn k x
  · cases hy : nn k y
    · exact order_key _ hb hi x y ((nn_iff k x).1 hx) ((nn_iff k y).1 hy)
    · have := order_cn k x y
      rw [← this, cn_of_nan hy]
      cases hh : k.format.order (cn k x) (qn k) with
      | none => rfl
      | some o =>
        exfalso
        have e : k.format.order (cn k x) (qn k) = none := by
          obtain ⟨s, t, e⟩ := decode_nan (nn_qn k)
          cases ha : k.format.read (cn k x) <;> simp [Ieee.Format.order, e, ha, Ieee.Datum.order]
        rw [e] at hh; cases hh
  · have := order_cn k x y
    rw [← this, cn_of_nan hx]
    obtain ⟨s, t, e⟩ := decode_nan (nn_qn k)
    cases ha : k.format.read (cn k y) <;> simp [Ieee.Format.order, e, ha, Ieee.Datum.order]

end Go.Proofs.Ythfkmcpajookaaa

/- Finite numbers, subnormal numbers, absolute values, and the masks by which bits are told. -/
namespace Go.Proofs.Ythfkmcpajookaaa

/-- a number that is finite -/
def fin (k : FloatKind) (b : Nat) : Bool := !nn k b && !(k.decode b).isInfinity

theorem fin_nan {k : FloatKind} {b : Nat} (h : nn k b = true) : fin k b = false := by simp [fin, h]
theorem fin_cn (k : FloatKind) (b : Nat) : fin k (cn k b) = fin k b := by
  cases h : nn k b
  · rw [cn_of_num h]
  · rw [cn_of_nan h, fin_nan h, fin_nan (nn_qn k)]

theorem fin_number {k : FloatKind} {b : Nat} (h : fin k b = true) : ∃ s m e, k.format.read b = .number s m e := by
  unfold fin nn FloatKind.decode at h
  cases e : k.format.read b with
  | number s m i => exact ⟨s, m, i, rfl⟩
  | infinity s => rw [e] at h; simp [Ieee.Datum.isInfinity] at h
  | nan s t => rw [e] at h; simp [Ieee.Datum.isNaN] at h

theorem inf_of {k : FloatKind} {b : Nat} (h : fin k b = false) (hn : nn k b = false) : ∃ s, k.format.read b = .infinity s := by
  unfold fin at h
  rw [hn] at h
  unfold nn FloatKind.decode at hn
  unfold FloatKind.decode at h
  cases e : k.format.read b with
  | number s m i => rw [e] at h; simp [Ieee.Datum.isInfinity] at h
  | infinity s => exact ⟨s, rfl⟩
  | nan s t => rw [e] at hn; simp [Ieee.Datum.isNaN] at hn

theorem sub_self_fin {k : FloatKind} {b : Nat} (h : fin k b = true) : floatBits .sub k b b = some 0 := by
  obtain ⟨s, m, e, hr⟩ := fin_number h
  unfold floatBits Ieee.Format.sub
  simp only [hr, Ieee.Datum.opposite, Ieee.Datum.sum]
  have hz : Ieee.signed s m (e - min e e).toNat + Ieee.signed (!s) m (e - min e e).toNat = 0 := by
    unfold Ieee.signed; cases s <;> simp <;> omega
  rw [hz]
  cases s <;> cases k <;> rfl

theorem sub_self_inf {k : FloatKind} {b : Nat} (h : fin k b = false) : floatBits .sub k b b = none := by
  cases hn : nn k b
  · obtain ⟨s, hr⟩ := inf_of h hn
    unfold floatBits Ieee.Format.sub
    simp only [hr, Ieee.Datum.opposite, Ieee.Datum.sum]
    cases s <;> rfl
  · exact floatBits_nan_left hn

theorem zero_self (k : FloatKind) : k.format.order 0 0 = some .eq := by cases k <;> rfl
theorem qn_order (k : FloatKind) (z : Nat) : k.format.order (qn k) z = none := by
  obtain ⟨s, t, e⟩ := decode_nan (nn_qn k)
  cases ha : k.format.read z <;> simp [Ieee.Format.order, e, ha, Ieee.Datum.order]

/-- what is taken from itself is zero for finite numbers alone -/
theorem sub_zero {k : FloatKind} {a r : Nat} (h : FR .sub k a a r) : (k.format.order r 0 == some .eq) = fin k a := by
  rw [← order_cn k r 0, h.1, fop, floatBits_cn]
  have h0 : cn k 0 = 0 := by cases k <;> rfl
  cases hf : fin k a
  · rw [sub_self_inf hf]
    show (k.format.order (qn k) (cn k 0) == some .eq) = false
    rw [qn_order]; rfl
  · rw [sub_self_fin hf]
    show (k.format.order 0 (cn k 0) == some .eq) = true
    rw [h0, zero_self]; rfl

theorem fin_write_inf {d : FloatKind} (s : Bool) : fin d (d.encode (.infinity s)) = false := by cases d <;> cases s <;> rfl

/-- a 32-bit number made a 64-bit one is finite as it was -/
theorem fin_up {a r : Nat} (h : UR a r) : fin .f64 r = fin .f32 a := by
  rw [← fin_cn .f64 r, h.1, ← fin_cn .f32 a]
  generalize hc : cn .f32 a = c
  cases hn : nn .f32 c
  · obtain ⟨u, hu⟩ := up_some hn
    rw [cvu, hu]
    show fin .f64 u = _
    unfold floatToFloatBits at hu
    rw [if_neg (by decide)] at hu
    split at hu
    · cases hu
    · rename_i s he
      cases hu
      rw [fin_write_inf]
      symm
      unfold fin
      rw [he]; simp [Ieee.Datum.isInfinity]
    · rename_i s m e he
      split at hu
      · cases hu
      · rename_i hi
        cases hu
        have e1 : nn .f64 (FloatKind.f64.encode (.number s m e)) = false := read_write Ieee.double (.number s m e) rfl
        have e2 : nn .f32 c = false := hn
        unfold fin
        rw [e1, e2, he]
        simp only [Bool.not_false, Bool.true_and]
        rw [show (FloatKind.f64.decode (FloatKind.f64.encode (.number s m e))).isInfinity = false from by simpa using hi]
        rfl
  · rw [cvu, ftf_nan (by decide) hn, fin_nan hn]
    rfl

theorem nn_up {a r : Nat} (h : UR a r) : nn .f64 r = nn .f32 a := by
  rw [← nn_cn .f64 r, h.1, ← nn_cn .f32 a]
  generalize cn .f32 a = c
  cases hn : nn .f32 c
  · obtain ⟨u, hu⟩ := up_some hn
    rw [cvu, hu]
    exact ftf_num (by decide) hu
  · rw [cvu, ftf_nan (by decide) hn]; rfl

theorem wf32 {a : Nat} (h : (Lit.float .f32 a).wf = true) : a < 4294967296 := by simpa [Lit.wf] using h
theorem wf64 {a : Nat} (h : (Lit.float .f64 a).wf = true) : a < 18446744073709551616 := by simpa [Lit.wf] using h

theorem single_sw : FloatKind.f32.format.signWeight = 2147483648 := by decide
theorem double_sw : FloatKind.f64.format.signWeight = 9223372036854775808 := by decide
theorem single_inf : FloatKind.f32.format.infRung = 2139095040 := by decide

/-- which bits are a not-a-number -/
theorem nn32 (a : Nat) : nn .f32 a = decide (2139095040 < a % 2147483648) := by
  have := nn_iff .f32 a
  unfold notNan at this
  rw [single_sw, single_inf] at this
  cases h : nn .f32 a
  · have := this.1 h; symm; simp; omega
  · symm; simp
    by_cases hx : a % 2147483648 ≤ 2139095040
    · rw [this.2 hx] at h; cases h
    · omega
theorem nn64 (a : Nat) : nn .f64 a = decide (9218868437227405312 < a % 9223372036854775808) := by
  have := nn_iff .f64 a
  unfold notNan at this
  rw [double_sw, show FloatKind.f64.format.infRung = 9218868437227405312 from by decide] at this
  cases h : nn .f64 a
  · have := this.1 h; symm; simp; omega
  · symm; simp
    by_cases hx : a % 9223372036854775808 ≤ 9218868437227405312
    · rw [this.2 hx] at h; cases h
    · omega

theorem fin64 (a : Nat) : fin .f64 a = decide (a % 9223372036854775808 < 9218868437227405312) := by
  have h2 := read_fin FloatKind.f64.format a
  have h3 := read_inf FloatKind.f64.format a
  rw [double_sw, show FloatKind.f64.format.infRung = 9218868437227405312 from by decide] at h2 h3
  unfold fin
  rw [nn64]
  by_cases h : a % 9223372036854775808 < 9218868437227405312
  · unfold FloatKind.decode
    rw [h2 h]
    simp [Ieee.Datum.isInfinity, h]; omega
  · by_cases h' : a % 9223372036854775808 = 9218868437227405312
    · unfold FloatKind.decode
      rw [h3 h' (by decide)]
      simp [Ieee.Datum.isInfinity, h]
    · simp [h]; omega

theorem i64_and_nat (a b : Nat) (ha : a < 9223372036854775808) (hb : b < 9223372036854775808) : bits .and .i64 (a : Int) (b : Int) = ((a &&& b : Nat) : Int) := by
  have hle : a &&& b ≤ a := Nat.and_le_left
  show IntKind.i64.wrap ((BitVec.ofInt 64 (a : Int) &&& BitVec.ofInt 64 (b : Int)).toNat : Int) = _
  rw [BitVec.toNat_and, ofInt_u64 a (by omega), ofInt_u64 b (by omega)]
  exact IntWalk.i64_in _ (by omega)

/-- the exponent's bits alone -/
theorem exp_mask (a : Nat) (h : a < 4294967296) : bits .and .i64 (a : Int) 2139095040 = ((a % 2147483648 / 8388608 * 8388608 : Nat) : Int) := by
  rw [show (2139095040 : Int) = ((2139095040 : Nat) : Int) from rfl, i64_and_nat a _ (by omega) (by decide)]
  congr 1
  have e : a &&& 2139095040 = a % 2147483648 / 8388608 * 8388608 := by
    apply Nat.eq_of_testBit_eq
    intro i
    rw [Nat.testBit_and, show (8388608 : Nat) = 2 ^ 23 from rfl, Nat.testBit_mul_two_pow, Nat.testBit_div_two_pow, show (2147483648 : Nat) = 2 ^ 31 from rfl, Nat.testBit_mod_two_pow,
      show (2139095040 : Nat) = (2 ^ 8 - 1) * 2 ^ 23 from rfl, Nat.testBit_mul_two_pow, Nat.testBit_two_pow_sub_one]
    by_cases h1 : 23 ≤ i
    · simp [h1]
      by_cases h2 : i < 31
      · simp [h2, show i - 23 < 8 by omega]
      · simp [h2, show ¬ i - 23 < 8 by omega]
    · simp [h1]
  exact e

theorem sign_mask (a : Nat) (h : a < 4294967296) : bits .and .i64 (a : Int) 2147483648 = ((a / 2147483648 * 2147483648 : Nat) : Int) := by
  rw [show (2147483648 : Int) = ((2147483648 : Nat) : Int) from rfl, i64_and_nat a _ (by omega) (by decide)]
  congr 1
  have e : a &&& 2147483648 = a / 2147483648 * 2147483648 := by
    apply Nat.eq_of_testBit_eq
    intro i
    rw [Nat.testBit_and, show (2147483648 : Nat) = 2 ^ 31 from rfl, Nat.testBit_mul_two_pow, Nat.testBit_div_two_pow, Nat.testBit_two_pow]
    by_cases h1 : 31 = i
    · subst h1; simp
    · by_cases h2 : 31 ≤ i
      · simp [h1, h2, show i - 31 + 31 = i by omega]
        exact Nat.testBit_lt_two_pow (Nat.lt_of_lt_of_le (show a < 2 ^ 32 from h) (Nat.pow_le_pow_right (by decide) (by omega)))
      · simp [h1, h2]
  exact e

theorem abs_bits (r : Nat) (h : r < 18446744073709551616) : (bits .andNot .u64 (r : Int) 9223372036854775808).toNat = r % 9223372036854775808 := by
  have := u64_andNot_nat r 9223372036854775808 h (by decide)
  rw [show (9223372036854775808 : Int) = ((9223372036854775808 : Nat) : Int) from rfl, this, Int.toNat_natCast]
  exact Nat.and_two_pow_sub_one_eq_mod r 63

theorem sign_and (r : Nat) (h : r < 18446744073709551616) : r &&& 9223372036854775808 = r / 9223372036854775808 * 9223372036854775808 := by
  apply Nat.eq_of_testBit_eq
  intro i
  rw [Nat.testBit_and, show (9223372036854775808 : Nat) = 2 ^ 63 from rfl, Nat.testBit_mul_two_pow, Nat.testBit_div_two_pow, Nat.testBit_two_pow]
  by_cases h1 : 63 = i
  · subst h1; simp
  · by_cases h2 : 63 ≤ i
    · simp [h1, h2, show i - 63 + 63 = i by omega]
      exact Nat.testBit_lt_two_pow (Nat.lt_of_lt_of_le (show r < 2 ^ 64 from h) (Nat.pow_le_pow_right (by decide) (by omega)))
    · simp [h1, h2]

theorem copysign_bits (r : Nat) (h : r < 18446744073709551616) : (bits BinOp.or IntKind.u64 (bits BinOp.andNot IntKind.u64 0 9223372036854775808) (bits BinOp.and IntKind.u64 (r : Int) 9223372036854775808)).toNat = r / 9223372036854775808 * 9223372036854775808 := by
  have h1 := u64_andNot_nat 0 9223372036854775808 (by decide) (by decide)
  have h2 := u64_and_nat r 9223372036854775808 h (by decide)
  rw [show (9223372036854775808 : Int) = ((9223372036854775808 : Nat) : Int) from rfl, show (0 : Int) = ((0 : Nat) : Int) from rfl, h1, h2, Nat.zero_and, sign_and r h]
  rw [u64_or_nat 0 _ (by decide) (by omega), Nat.zero_or, Int.toNat_natCast]

theorem cmp_gt (x y : Int) : (some (compare x y) == some Ordering.gt) = decide (y < x) := by
  simp only [compare, compareOfLessAndEq]
  by_cases h : x < y
  · rw [if_pos h, decide_eq_false (by omega)]; rfl
  · rw [if_neg h]
    by_cases h' : x = y
    · rw [if_pos h', decide_eq_false (by omega)]; rfl
    · rw [if_neg h', decide_eq_true (by omega)]; rfl
theorem cmp_lt (x y : Int) : (some (compare x y) == some Ordering.lt) = decide (x < y) := by
  simp only [compare, compareOfLessAndEq]
  by_cases h : x < y
  · rw [if_pos h, decide_eq_true h]; rfl
  · rw [if_neg h, decide_eq_false h]
    by_cases h' : x = y
    · rw [if_pos h']; rfl
    · rw [if_neg h']; rfl
theorem cmp_eq (x y : Int) : (some (compare x y) == some Ordering.eq) = decide (x = y) := by
  simp only [compare, compareOfLessAndEq]
  by_cases h : x < y
  · rw [if_pos h, decide_eq_false (by omega)]; rfl
  · rw [if_neg h]
    by_cases h' : x = y
    · rw [if_pos h', decide_eq_true h']; rfl
    · rw [if_neg h', decide_eq_false h']; rfl

theorem key64_pos (x : Nat) (h : x < 9223372036854775808) : key FloatKind.f64.format x = x := by
  unfold key
  rw [double_sw, Nat.div_eq_of_lt h, Nat.mod_eq_of_lt h]
  rfl

/-- greater than the greatest finite number: the infinity alone -/
theorem abs_gt (r : Nat) (h : nn .f64 r = false) : (FloatKind.f64.format.order (r % 9223372036854775808) 9218868437227405311 == some .gt) = !fin .f64 r := by
  rw [nn64] at h
  have h' := of_decide_eq_false h
  rw [ord_key, nn64, nn64, fin64, Nat.mod_mod, decide_eq_false h', decide_eq_false (by decide)]
  simp only [Bool.or_false, Bool.false_eq_true, if_false]
  rw [cmp_gt, key64_pos _ (Nat.mod_lt _ (by decide)), key64_pos _ (by decide)]
  rw [← decide_not]
  exact decide_eq_decide.2 (by omega)
end Go.Proofs.Ythfkmcpajookaaa

/- The entries of package math that have no body: what each hands back. -/
namespace Go.Proofs.Ythfkmcpajookaaa
open Go.RowKit

@[go_sem] theorem ext_f64bits (b : Nat) (w : World) : (callFunc 97 #[.float .f64 b]).run Try.prog w = .ok (.value (.int .u64 b)) w := by rw [run_callFunc_extern (e := Extern.MathFloatBits.float64bits) Try.func97 (by kernel_rfl) (by kernel_rfl) (by kernel_rfl) (by kernel_rfl)]; rfl
@[go_sem] theorem ext_f64from (n : Int) (w : World) : (callFunc 96 #[.int .u64 n]).run Try.prog w = .ok (.value (.float .f64 n.toNat)) w := by rw [run_callFunc_extern (e := Extern.MathFloatBits.float64frombits) Try.func96 (by kernel_rfl) (by kernel_rfl) (by kernel_rfl) (by kernel_rfl)]; rfl
end Go.Proofs.Ythfkmcpajookaaa

/- The laws' own comparison of two 64-bit numbers: it answers true where both are the same up to the bits of a not-a-number. -/
namespace Go.Proofs.Ythfkmcpajookaaa
open Go.RowKit

/-- true, and the world is as it was but for questions -/
def Yes (w : World) (e : Ending) (w' : World) : Prop := e = .returned (.bool true) ∧ ∃ n, w' = w.drewN n
theorem Yes.same {w : World} : Yes w (.returned (.bool true)) w := ⟨rfl, 0, rfl⟩
theorem Yes.drewN {w : World} {n : Nat} : Yes w (.returned (.bool true)) (w.drewN n) := ⟨rfl, n, rfl⟩

theorem FR_order {op op' : BinOp} {k : FloatKind} {m n m' n' r s : Nat} (h : FR op k m n r) (h' : FR op' k m' n' s) (he : fop op k (cn k m) (cn k n) = fop op' k (cn k m') (cn k n')) (z : Nat) :
    k.format.order r z = k.format.order s z := by
  rw [← order_cn k r z, ← order_cn k s z, h.1, h'.1, he]

theorem sameFloat_nan (g x : Nat) (w : World) (hg : FloatKind.f64.format.order g g = none) (hx : FloatKind.f64.format.order x x = none) :
    Calls Try.prog 69 #[.float .f64 g, .float .f64 x] w (Yes w) := by
  go_enter Try.func69, Try.ntmps69
  go_wp2
  go_ret
  exact Yes.same

theorem sameFloat_eq (g : Nat) (w : World) (hg : FloatKind.f64.format.order g g = some .eq) :
    Calls Try.prog 69 #[.float .f64 g, .float .f64 g] w (Yes w) := by
  go_enter Try.func69, Try.ntmps69
  cases h0 : FloatKind.f64.format.order g 0 == some .eq
  · go_wp2
    go_ret
    exact Yes.same
  · go_wp2_with (refine wpList_farith rfl _ _ _ _ _ rfl rfl _ _ _ rfl rfl ?_; intro _ _ _)
    go_ret
    rename_i r1 j1 h1 r2 j2 h2
    refine ⟨?_, _, rfl⟩
    show Ending.returned (.bool ((FloatKind.f64.format.order r1 0 == some Ordering.gt) == (FloatKind.f64.format.order r2 0 == some Ordering.gt))) = _
    rw [FR_order h1 h2 rfl 0]
    simp

/-- numbers that are the same -/
theorem sameFloat_any (g x : Nat) (w : World) (h : cn .f64 g = cn .f64 x) :
    Calls Try.prog 69 #[.float .f64 g, .float .f64 x] w (Yes w) := by
  cases hg : nn .f64 g
  · have hx : nn .f64 x = false := by rw [← nn_cn, ← h, nn_cn]; exact hg
    rw [cn_of_num hg, cn_of_num hx] at h
    subst h
    exact sameFloat_eq g w (by rw [order_self, hg]; rfl)
  · have hx : nn .f64 x = true := by rw [← nn_cn, ← h, nn_cn]; exact hg
    exact sameFloat_nan g x w (by rw [order_self, hg]; rfl) (by rw [order_self, hx]; rfl)

theorem UR_same {m m' r r' : Nat} (h : UR m r) (h' : UR m' r') (e : cn .f32 m = cn .f32 m') : cn .f64 r = cn .f64 r' := by rw [h.1, h'.1, e]
/-- a bool, and the world is as it was but for questions -/
def Bol (b : Bool) (w : World) (e : Ending) (w' : World) : Prop := e = .returned (.bool b) ∧ ∃ n, w' = w.drewN n

/-- a 32-bit number, and the world is as it was but for questions -/
def Flo (P : Nat → Prop) (w : World) (e : Ending) (w' : World) : Prop := ∃ r n, P r ∧ (Lit.float .f32 r).wf = true ∧ e = .returned (.float .f32 r) ∧ w' = w.drewN n
def Flo2 (r : Nat) (b : Bool) (w : World) (e : Ending) (w' : World) : Prop := e = .returned (.tuple #[.float .f32 r, .bool b]) ∧ w = w'

/-- the end of an exact law on one 32-bit number -/
theorem same_end {a b r s : Nat} (w : World) (h : UR a r) (h' : UR b s) (e : cn .f32 a = cn .f32 b) : Calls Try.prog 69 #[.float .f64 r, .float .f64 s] w (Yes w) :=
  sameFloat_any r s w (UR_same h h' e)
end Go.Proofs.Ythfkmcpajookaaa

/- Blocks of a call's own: what lies in them, and what is kept behind a call. -/
namespace Go.Proofs.Ythfkmcpajookaaa
open Go.RowKit

theorem below_al1 (w : World) (a : Obj) : Below w.heap.size w (w.alloc a) := (Below.refl _ _).alloc (Nat.le_refl _) a
theorem below_al2 (w : World) (a b : Obj) : Below w.heap.size w ((w.alloc a).alloc b) := (below_al1 w a).alloc (by simp) b
theorem below_al3 (w : World) (a b c : Obj) : Below w.heap.size w (((w.alloc a).alloc b).alloc c) := (below_al2 w a b).alloc (by simp; omega) c
theorem below_al4 (w : World) (a b c d : Obj) : Below w.heap.size w ((((w.alloc a).alloc b).alloc c).alloc d) := (below_al3 w a b c).alloc (by simp; omega) d

theorem below_unal {a w : World} {o : Obj} (h : Below (a.alloc o).heap.size (a.alloc o) w) : Below a.heap.size a w := below_step (below_al1 a o) h

/-- a block holds these cells, and may be written -/
def Cells (w : World) (p : Nat) (vs : List Value) : Prop := (∀ i v, vs[i]? = some v → w.cell? ⟨p, i, none⟩ = some v) ∧ (∀ i, w.frozen? ⟨p, i, none⟩ = false) ∧ p < w.heap.size
theorem Cells.at {w : World} {p : Nat} {vs : List Value} (h : Cells w p vs) (i : Nat) {v : Value} (hv : vs[i]? = some v) : w.cell? ⟨p, i, none⟩ = some v := h.1 i v hv
theorem Cells.fz {w : World} {p : Nat} {vs : List Value} (h : Cells w p vs) (i : Nat) : w.frozen? ⟨p, i, none⟩ = false := h.2.1 i
theorem Cells.lt {w : World} {p : Nat} {vs : List Value} (h : Cells w p vs) : p < w.heap.size := h.2.2
theorem Cells.kept {w w' : World} {p : Nat} {vs : List Value} (h : Cells w p vs) (hb : Below w.heap.size w w') : Cells w' p vs :=
  ⟨fun i v hv => (hb.cell (p := ⟨p, i, none⟩) h.lt).trans (h.1 i v hv), fun i => (hb.frozen (p := ⟨p, i, none⟩) h.lt).trans (h.2.1 i), Nat.lt_of_lt_of_le h.lt hb.size⟩
theorem Cells.made (w : World) (vs : List Value) (t : TypeId) : Cells (w.alloc (.cells vs.toArray t)) w.heap.size vs :=
  ⟨fun i v hv => by simpa using hv, fun i => by simp, by simp⟩
theorem Cells.drewN {w : World} {p n : Nat} {vs : List Value} (h : Cells w p vs) : Cells (w.drewN n) p vs := h
theorem Cells.al {w : World} {p : Nat} {vs : List Value} (h : Cells w p vs) (o : Obj) : Cells (w.alloc o) p vs := h.kept (below_al1 w o)

theorem Cells.set {w : World} {p : Nat} {vs : List Value} (h : Cells w p vs) (i : Nat) (hi : i < vs.length) (v : Value) : Cells (w.setCell ⟨p, i, none⟩ v) p (vs.set i v) := by
  refine ⟨fun j u hj => ?_, fun j => by rw [World.frozen?_setCell]; exact h.2.1 j, by simpa using h.2.2⟩
  have hi' : vs[i]? = some vs[i] := List.getElem?_eq_getElem hi
  by_cases e : i = j
  · subst e
    rw [World.cell?_setCell_same _ _ _ (h.1 i _ hi')]
    simp [hi] at hj
    simp [hj]
  · rw [World.cell?_setCell_other _ _ _ _ (by intro e'; cases e'; exact e rfl)]
    rw [List.getElem?_set_ne e] at hj
    exact h.1 j u hj
theorem Cells.far {w : World} {p q : Nat} {vs : List Value} (h : Cells w p vs) (hq : q ≠ p) (i : Nat) (v : Value) : Cells (w.setCell ⟨q, i, none⟩ v) p vs :=
  ⟨fun j u hj => by rw [World.cell?_setCell_other _ _ _ _ (by intro e; cases e; exact hq rfl)]; exact h.1 j u hj, fun j => by rw [World.frozen?_setCell]; exact h.2.1 j, by simpa using h.2.2⟩

end Go.Proofs.Ythfkmcpajookaaa

/- A slice of 32-bit numbers, as a list of their bits: what it is, and such an argument opened. -/
namespace Go.Proofs.Ythfkmcpajookaaa
open Go.RowKit

/-- the value v reads as the list zs of numbers: empty, or a row of cells -/
def FRow (w : World) (v : Value) (zs : List Nat) : Prop :=
  ((∃ a c, v = .slice a 0 c) ∧ zs = []) ∨
  ∃ b off cap, v = .slice (some ⟨b, off, none⟩) zs.length cap ∧ zs.length ≤ maxLen ∧ ∀ i, i < zs.length → w.cell? ⟨b, off + i, none⟩ = some (.float .f32 (zs.getD i 0))

theorem cell_lt {w : World} {b o : Nat} {v : Value} (h : w.cell? ⟨b, o, none⟩ = some v) : b < w.heap.size := by
  unfold World.cell? at h
  by_cases hb : b < w.heap.size
  · exact hb
  · rw [Array.getElem?_eq_none (by simpa using hb)] at h
    simp at h

theorem FRow.below {w w' : World} {v : Value} {zs : List Nat} (h : FRow w v zs) (hb : Below w.heap.size w w') : FRow w' v zs := by
  rcases h with h | ⟨b, off, cap, e, hm, hc⟩
  · exact .inl h
  · refine .inr ⟨b, off, cap, e, hm, fun i hi => ?_⟩
    have := hc i hi
    rw [hb.cell (p := ⟨b, off + i, none⟩) (cell_lt this)]
    exact this

theorem FRow.drewN {w : World} {v : Value} {zs : List Nat} {n : Nat} (h : FRow w v zs) : FRow (w.drewN n) v zs := h


/-- how long a slice is -/
theorem FRow.shape {w : World} {v : Value} {zs : List Nat} (h : FRow w v zs) : ∃ a cap, v = .slice a zs.length cap := by
  rcases h with ⟨h, rfl⟩ | ⟨b, off, cap, rfl, _⟩
  · exact h
  · exact ⟨_, _, rfl⟩

/-- an argument that is a slice of 32-bit numbers -/
theorem open_f32s {H : Type} {enc : TypeId × Value → H} {P : Program} {w : World} {base : Nat} {spare : Nat → Bool} {held : Bool} {t e : TypeId} {a : Option Addr} {len cap : Nat} {d : DataW H} {ps : List MemPlace}
    (ht : P.underlying t = some (.slice e)) (he : P.underlying e = some (.float .f32)) (hc : P.cellsOf e = 1) (h : DataW.Trod enc P w base spare held t (.slice a len cap) d ps) :
    ∃ zs, FRow w (.slice a len cap) zs ∧ ∀ i, i < zs.length → (Lit.float .f32 (zs.getD i 0)).wf = true := by
  obtain ⟨fuel, hf⟩ := h
  rcases Deep.open_slice1 ht hc hf with ⟨hcs, _⟩ | ⟨x, l, c, m, n, V, D, Pl, hcs, _, hl, hm, hmm, _, hV⟩
  · simp [Value.cells] at hcs
    obtain ⟨rfl, rfl, rfl⟩ := hcs
    exact ⟨[], .inl ⟨⟨_, _, rfl⟩, rfl⟩, fun i hi => by simp at hi⟩
  · simp [Value.cells] at hcs
    obtain ⟨rfl, rfl, rfl⟩ := hcs
    have hlm : len ≤ m := by rw [hmm]; split <;> omega
    have hb : ∀ i, i < len → ∃ b, V i = .float .f32 b ∧ (Lit.float .f32 b).wf = true := by
      intro i hi
      have h2 := (hV i (by omega)).2
      cases n with
      | zero => simp [DataW.trod] at h2
      | succ n =>
        cases hv : V i <;> simp [DataW.trod, he, hv] at h2
        rename_i k b
        obtain ⟨⟨rfl, hw⟩, _⟩ := h2
        exact ⟨b, rfl, hw⟩
    obtain ⟨B, hB⟩ := Deep.choose_lt hb
    refine ⟨(List.range len).map B, ?_, fun i hi => ?_⟩
    · by_cases h0 : len = 0
      · subst h0; exact .inl ⟨⟨_, _, rfl⟩, rfl⟩
      · obtain ⟨xb, xo, xs⟩ := x
        have hs : xs = none := by simpa [Addr.add] using World.cell?_spot (hV 0 (by omega)).1
        subst hs
        refine .inr ⟨xb, xo, cap, by simp, by simp; omega, fun i hi => ?_⟩
        have hi' : i < len := by simpa using hi
        have := (hV i (by omega)).1
        rw [(hB i hi').1] at this
        have ea : (⟨xb, xo, none⟩ : Addr).add i = ⟨xb, xo + i, none⟩ := by
          by_cases h : i = 0
          · subst h; simp [Addr.add]
          · simp [Addr.add, h]
        rw [ea] at this
        simpa [hi', List.getD_eq_getElem?_getD] using this
    · have hi' : i < len := by simpa using hi
      simpa [hi', List.getD_eq_getElem?_getD] using (hB i hi').2

/-- a slice that is a whole block of its own -/
abbrev sl (p : Nat) (zs : List Nat) : Value := .slice (some ⟨p, 0, none⟩) zs.length zs.length
def fl (zs : List Nat) : List Value := zs.map (.float .f32)
theorem FRow.of_cells {w : World} {p : Nat} {zs : List Nat} (h : Cells w p (fl zs)) (hm : zs.length ≤ maxLen) : FRow w (sl p zs) zs :=
  .inr ⟨p, 0, _, rfl, hm, fun i hi => by rw [Nat.zero_add]; exact h.1 i _ (by simp [fl, hi, List.getD_eq_getElem?_getD])⟩
theorem ret_b {x b : Bool} (h : x = b) : Ending.returned (.bool b) = Ending.returned (.bool x) := by rw [h]

theorem FRow.cells {w : World} {v : Value} {zs : List Nat} (h : FRow w v zs) (hn : 1 ≤ zs.length) : ∃ b off cap, v = .slice (some ⟨b, off, none⟩) zs.length cap ∧ ∀ i, i < zs.length → w.cell? ⟨b, off + i, none⟩ = some (.float .f32 (zs.getD i 0)) := by
  rcases h with ⟨_, rfl⟩ | ⟨b, off, cap, e, hm, hc⟩
  · simp at hn
  · exact ⟨b, off, cap, e, hc⟩

theorem FRow.len {w : World} {v : Value} {zs : List Nat} (h : FRow w v zs) : zs.length ≤ 9223372036854775807 := by
  rcases h with ⟨_, rfl⟩ | ⟨_, _, _, _, hm, _⟩
  · simp
  · exact hm

end Go.Proofs.Ythfkmcpajookaaa

/- A region that draws its order, whose operations leave the world alone but for questions, AND MAY HAND BACK ANY OF SEVERAL VALUES (a not-a-number's bits): one walk in the order of the text, for every such value, serves every order. After the guide's theorem for one value. -/
namespace Go.Proofs.Ythfkmcpajookaaa

section
variable {P : Program} {ops : Array Oper} {md : Region.Mode} {C : World → Prop} {Sg : FuncId → Array Value → Value → Prop}

def LoGood (P : Program) (C : World → Prop) (Sg : FuncId → Array Value → Value → Prop) : Result Next → Prop
  | .ok (.value _) w' => C w'
  | .ok .skip w' => C w'
  | .ok (.enter f args) w' => C w' ∧ Calls P f args w' (fun e w'' => ∃ v, e = .returned v ∧ Sg f args v ∧ C w'')
  | _ => False

def LoVal (Sg : FuncId → Array Value → Value → Prop) (v : Value) : Result Next → Prop
  | .ok (.value u) _ => v = u
  | .ok .skip _ => v = undef
  | .ok (.enter f args) _ => Sg f args v
  | _ => False

def good (P : Program) (C : World → Prop) (Sg : FuncId → Array Value → Value → Prop) (o : Oper) (a : Act) : Prop := ∀ w, C w → LoGood P C Sg ((execOp a.eval o).run P w)
def val (P : Program) (C : World → Prop) (Sg : FuncId → Array Value → Value → Prop) (o : Oper) (a : Act) (v : Value) : Prop := ∃ w, C w ∧ LoVal Sg v ((execOp a.eval o).run P w)

def loose (P : Program) (C : World → Prop) (Sg : FuncId → Array Value → Value → Prop) (o : Oper) (a : Act) (next : Act → Prop) : Prop := good P C Sg o a ∧ ∀ v, val P C Sg o a v → next (a.put o.dst v)

def wpLoose (P : Program) (ops : Array Oper) (C : World → Prop) (Sg : FuncId → Array Value → Value → Prop) (Q : Act → Prop) : List Oper → Act → Prop
  | [], a => Q a
  | o :: rest, a => if Region.wanted o (yielded ops a.tmps) then loose P C Sg o a (wpLoose P ops C Sg Q rest) else wpLoose P ops C Sg Q rest (a.put o.dst undef)

/-- Is it wanted, and then good; what it may leave. -/
def LGood (P : Program) (ops : Array Oper) (C : World → Prop) (Sg : FuncId → Array Value → Value → Prop) (o : Oper) (a : Act) : Prop := Region.wanted o (yielded ops a.tmps) = true → good P C Sg o a
def LVal (P : Program) (ops : Array Oper) (C : World → Prop) (Sg : FuncId → Array Value → Value → Prop) (o : Oper) (a : Act) (v : Value) : Prop :=
  (Region.wanted o (yielded ops a.tmps) = true ∧ val P C Sg o a v) ∨ (Region.wanted o (yielded ops a.tmps) = false ∧ v = undef)

def lOp (P : Program) (ops : Array Oper) (C : World → Prop) (Sg : FuncId → Array Value → Value → Prop) (i : Nat) (K : Act → Prop) (a : Act) : Prop :=
  match ops[i]? with
  | none => K a
  | some o => LGood P ops C Sg o a ∧ ∀ v, LVal P ops C Sg o a v → K (a.put o.dst v)

def wpAnyL (P : Program) (md : Region.Mode) (ops : Array Oper) (C : World → Prop) (Sg : FuncId → Array Value → Value → Prop) (Q : Act → Prop) : Nat → Array Bool → Act → Prop
  | 0, listed, a => Region.ready md ops listed = [] ∧ Q a
  | fuel + 1, listed, a =>
    (Region.ready md ops listed = [] → Q a) ∧
    ∀ i ∈ Region.ready md ops listed, lOp P ops C Sg i (wpAnyL P md ops C Sg Q fuel (listed.setIfInBounds i true)) a

theorem wp_of_loose {o : Oper} {a : Act} {K : Act → Prop} {K' : Act → World → Prop} {Q' : Exit → Act → World → Prop} {w : World} (hw : C w) (h : ∀ a w', C w' → K a → K' a w')
    (hg : good P C Sg o a) (hv : ∀ v, val P C Sg o a v → K (a.put o.dst v)) : o.wp P a w K' Q' := by
  have h3 := hg w hw
  have h4 : ∀ v, LoVal Sg v ((execOp a.eval o).run P w) → K (a.put o.dst v) := fun v hv' => hv v ⟨w, hw, hv'⟩
  unfold Oper.wp
  generalize (execOp a.eval o).run P w = r at *
  cases r with
  | ok n w' =>
    cases n <;> simp only [LoGood] at h3 <;> simp only [Oper.upon]
    case value u => exact h _ _ h3 (h4 u rfl)
    case skip => exact h _ _ h3 (h4 undef rfl)
    case enter f args =>
      exact h3.2.mono fun e w'' ⟨v, he, hs, hc⟩ => by subst he; exact h _ _ hc (h4 v hs)
  | halt x w' => simp only [LoGood] at h3

theorem wpOp_of_lOp {i : Nat} {a : Act} {K : Act → Prop} {K' : Act → World → Prop} {Q' : Exit → Act → World → Prop} {w : World} (hC : C w) (h : ∀ a w', C w' → K a → K' a w') (hh : lOp P ops C Sg i K a) : wpOp P ops Q' i K' a w := by
  unfold lOp at hh
  unfold wpOp
  split
  · rename_i ho; simp only [ho] at hh; exact h _ _ hC hh
  · rename_i o ho
    simp only [ho] at hh
    split
    · rename_i hw; exact .inl (wp_of_loose hC h (hh.1 hw) fun v hv => hh.2 v (.inl ⟨hw, hv⟩))
    · rename_i hw; exact h _ _ hC (hh.2 undef (.inr ⟨by simpa using hw, rfl⟩))

theorem wpAny_of_loose {Q : Act → Prop} {Q' : Exit → Act → World → Prop} (hQ : ∀ a w, C w → Q a → Q' .normal a w) : ∀ (fuel : Nat) (listed : Array Bool) (a : Act) (w : World), C w →
    wpAnyL P md ops C Sg Q fuel listed a → wpAny P md ops Q' fuel listed a w
  | 0, _, _, _, hw, h => ⟨h.1, hQ _ _ hw h.2⟩
  | fuel + 1, _, _, _, hw, h => ⟨fun h0 => hQ _ _ hw (h.1 h0), fun i hi => wpOp_of_lOp hw (fun a' w' hw' => wpAny_of_loose hQ fuel _ a' w' hw') (h.2 i hi)⟩

/-- there is a value that it may leave -/
theorem some_val {o : Oper} {a : Act} {w : World} (hw : C w) (hg : LGood P ops C Sg o a) : ∃ v, LVal P ops C Sg o a v := by
  by_cases h : Region.wanted o (yielded ops a.tmps) = true
  · have h3 := hg h w hw
    have : ∃ v, LoVal Sg v ((execOp a.eval o).run P w) := by
      generalize (execOp a.eval o).run P w = r at *
      cases r with
      | ok n w' =>
        cases n <;> simp only [LoGood] at h3
        case value u => exact ⟨u, rfl⟩
        case skip => exact ⟨undef, rfl⟩
        case enter f args =>
          obtain ⟨e, w'', fr, ⟨v, _, hs, _⟩, _⟩ := h3.2 []
          exact ⟨v, hs⟩
      | halt x w' => simp only [LoGood] at h3
    obtain ⟨v, hv⟩ := this
    exact ⟨v, .inl ⟨h, w, hw, hv⟩⟩
  · exact ⟨undef, .inr ⟨by simpa using h, rfl⟩⟩

theorem LGood.of_same {o : Oper} {a a' : Act} (h : LGood P ops C Sg o a) (he : execOp a'.eval o = execOp a.eval o)
    (hw : Region.wanted o (yielded ops a'.tmps) = Region.wanted o (yielded ops a.tmps)) : LGood P ops C Sg o a' := by
  unfold LGood good at *
  rw [he, hw]
  exact h

theorem LVal.of_same {o : Oper} {a a' : Act} {v : Value} (h : LVal P ops C Sg o a v) (he : execOp a'.eval o = execOp a.eval o)
    (hw : Region.wanted o (yielded ops a'.tmps) = Region.wanted o (yielded ops a.tmps)) : LVal P ops C Sg o a' v := by
  unfold LVal val at *
  rw [he, hw]
  exact h

theorem wpAnyL_first {Q : Act → Prop} {i : Nat} {oi : Oper} {w0 : World} (hC : C w0) (hi : ops[i]? = some oi) (hsel : ∀ (j : Nat) (o : Oper) cs b, ops[j]? = some o → o.op ≠ .select cs b) :
    ∀ (fuel : Nat) (listed : Array Bool) (a : Act),
      (∀ j oj, ops[j]? = some oj → j ≠ i → listed.getD j true = false → (∀ e ∈ oj.after, Region.binds md e = true → e.on ≠ i) → oi.apart ops oj = true) →
      i ∈ Region.ready md ops listed → LGood P ops C Sg oi a →
      (∀ v, LVal P ops C Sg oi a v → wpAnyL P md ops C Sg Q fuel (listed.setIfInBounds i true) (a.put oi.dst v)) → wpAnyL P md ops C Sg Q (fuel + 1) listed a := by
  intro fuel
  induction fuel with
  | zero =>
    intro listed a _ hr hy H
    refine ⟨fun h => (by rw [h] at hr; cases hr), fun j hj => ?_⟩
    by_cases hji : j = i
    · subst hji
      unfold lOp; simp only [hi]
      exact ⟨hy, H⟩
    · obtain ⟨v, hv⟩ := some_val hC hy
      have := ready_mono hj hji
      rw [(H v hv).1] at this
      cases this
  | succ fuel ih =>
    intro listed a hfree hr hy H
    refine ⟨fun h => (by rw [h] at hr; cases hr), fun j hj => ?_⟩
    by_cases hji : j = i
    · subst hji
      unfold lOp; simp only [hi]
      exact ⟨hy, H⟩
    · obtain ⟨hjun, oj, hoj, hall⟩ := mem_ready.1 hj
      have hnot : ∀ e ∈ oj.after, Region.binds md e = true → e.on ≠ i := fun e he hb heq => by
        have h1 := hall e he hb
        have h0 := (mem_ready.1 hr).1
        rw [heq] at h1
        rcases Nat.lt_or_ge i listed.size with h' | h'
        · simp [h'] at h0 h1; rw [h0] at h1; cases h1
        · simp [Array.getElem?_eq_none h'] at h1
      have hap := hfree j oj hoj hji hjun hnot
      obtain ⟨q1, q2, q3⟩ := Oper.apart_spec hap
      have keepG : ∀ u, LGood P ops C Sg oi (a.put oj.dst u) := fun u =>
        hy.of_same (execOp_put oi (fun cs b => hsel i oi cs b hi) a oj.dst u q3) (wanted_put oi a oj.dst u q3)
      have hfree' : ∀ k ok, ops[k]? = some ok → k ≠ i → (listed.setIfInBounds j true).getD k true = false →
          (∀ e ∈ ok.after, Region.binds md e = true → e.on ≠ i) → oi.apart ops ok = true := fun k ok hk hki hun hno => by
        refine hfree k ok hk hki ?_ hno
        by_cases hjk : j = k
        · subst hjk; exact hjun
        · rw [getD_set_ne true hjk] at hun; exact hun
      have ev : ∀ v, execOp (a.put oi.dst v).eval oj = execOp a.eval oj := fun v => execOp_put oj (fun cs b => hsel j oj cs b hoj) a oi.dst v q1
      have wv : ∀ v, Region.wanted oj (yielded ops (a.put oi.dst v).tmps) = Region.wanted oj (yielded ops a.tmps) := fun v => wanted_put oj a oi.dst v q1
      have step : ∀ v, LVal P ops C Sg oi a v → LGood P ops C Sg oj a ∧ ∀ u, LVal P ops C Sg oj a u → wpAnyL P md ops C Sg Q fuel ((listed.setIfInBounds i true).setIfInBounds j true) ((a.put oi.dst v).put oj.dst u) := fun v hv => by
        have h1 := (H v hv).2 j (ready_mono hj hji)
        unfold lOp at h1
        simp only [hoj] at h1
        exact ⟨h1.1.of_same (ev v).symm (wv v).symm, fun u hu => h1.2 u (hu.of_same (ev v) (wv v))⟩
      obtain ⟨v0, hv0⟩ := some_val hC hy
      unfold lOp
      simp only [hoj]
      refine ⟨(step v0 hv0).1, fun u hu => ?_⟩
      refine ih (listed.setIfInBounds j true) (a.put oj.dst u) hfree' (ready_mono hr (Ne.symm hji)) (keepG u) fun v hv => ?_
      have hv' : LVal P ops C Sg oi a v := hv.of_same (execOp_put oi (fun cs b => hsel i oi cs b hi) a oj.dst u q3).symm (wanted_put oi a oj.dst u q3).symm
      have := (step v hv').2 u hu
      rw [Array.setIfInBounds_comm _ _ hji, ← Act.put_comm a v u q2]
      exact this

theorem wpAnyL_lex {Q : Act → Prop} {w0 : World} (hC : C w0) (hs : Region.noSelect ops = true) : ∀ (l : List Oper) (k : Nat) (listed : Array Bool) (a : Act), (∀ j, l[j]? = ops[k + j]?) →
    Region.lexFrom md ops l.length k listed = true → wpLoose P ops C Sg Q l a → wpAnyL P md ops C Sg Q l.length listed a
  | [], _, _, _, _, hB, h => ⟨by simpa [Region.lexFrom] using hB, h⟩
  | o :: l, k, listed, a, hl, hB, h => by
    have h0 : ops[k]? = some o := by simpa using (hl 0).symm
    simp only [List.length_cons, Region.lexFrom, Bool.and_eq_true] at hB
    obtain ⟨⟨hr, hf⟩, hB'⟩ := hB
    have hst : LGood P ops C Sg o a ∧ ∀ v, LVal P ops C Sg o a v → wpLoose P ops C Sg Q l (a.put o.dst v) := by
      unfold wpLoose at h
      by_cases hw : Region.wanted o (yielded ops a.tmps) = true
      · rw [if_pos hw] at h
        refine ⟨fun _ => h.1, fun v hv => ?_⟩
        rcases hv with ⟨_, hv⟩ | ⟨hn, _⟩
        · exact h.2 v hv
        · rw [hw] at hn; cases hn
      · rw [if_neg hw] at h
        refine ⟨fun hw' => absurd hw' hw, fun v hv => ?_⟩
        rcases hv with ⟨hn, _⟩ | ⟨_, rfl⟩
        · exact absurd hn hw
        · exact h
    exact wpAnyL_first hC h0 (Region.noSelect_spec hs) l.length listed a (Region.free_spec h0 hf) (by simpa using hr) hst.1
      fun v hv => wpAnyL_lex hC hs l (k + 1) _ _ (fun j => by have := hl (j + 1); simpa [Nat.add_assoc, Nat.add_comm 1 j] using this) hB' (hst.2 v hv)

theorem wp_region_loose {id : Nat} {Q : Exit → Act → World → Prop} {a : Act} {w : World} {l : List Oper} (Sg : FuncId → Array Value → Value → Prop) (hm : P.follows .mixedOrders = true) (hB : Region.lexB .any l.toArray = true)
    (h : wpLoose P l.toArray (fun w' => ∃ n, w' = w.drewN n) Sg (fun a' => ∀ w', (∃ n, w' = w.drewN n) → Q .normal a' w') l a) : (Code.region id l.toArray true).wp P Q a w := by
  simp only [Region.lexB, Bool.and_eq_true] at hB
  refine wp_region_any hm (wpAny_of_loose (C := fun w' => ∃ n, w' = w.drewN n) (Sg := Sg) (Q := fun a' => ∀ w', (∃ n, w' = w.drewN n) → Q .normal a' w') (fun _ w' hw' h => h w' hw') _ _ _ _ ⟨1, rfl⟩ ?_)
  have := wpAnyL_lex (C := fun w' => ∃ n, w' = w.drewN n) (Sg := Sg) (md := .any) (w0 := w.drewN 0) ⟨0, rfl⟩ hB.1 l 0 (Array.replicate l.length false) a (by simp) (by simpa using hB.2) h
  simpa using this

/-! ### The steps -/
variable {Q : Act → Prop} {a : Act} {o : Oper} {rest : List Oper} {w : World}
theorem wpLoose_nil (h : Q a) : wpLoose P ops C Sg Q [] a := h

theorem good_of_quiet {v : Value} (h : ∀ w, C w → o.quietAt P a C w v) (hs : ∀ w f args w', C w → (execOp a.eval o).run P w ≠ .ok (.enter f args) w') :
    good P C Sg o a ∧ ∀ u, val P C Sg o a u → u = v := by
  constructor
  · intro w hw
    have h1 := h w hw
    have h2 := hs w
    unfold Oper.quietAt at h1
    generalize (execOp a.eval o).run P w = r at *
    cases r with
    | ok n w' =>
      cases n <;> simp only [Oper.quietUpon] at h1 <;> simp only [LoGood]
      case value u => rw [h1.1]; exact hw
      case skip => rw [h1.1]; exact hw
      case enter f args => exact absurd rfl (h2 f args w' hw)
    | halt x w' => simp only [Oper.quietUpon] at h1
  · rintro u ⟨w, hw, hu⟩
    have h1 := h w hw
    have h2 := hs w
    unfold Oper.quietAt at h1
    generalize (execOp a.eval o).run P w = r at *
    cases r with
    | ok n w' =>
      cases n <;> simp only [Oper.quietUpon] at h1 <;> simp only [LoVal] at hu
      case value x => rw [hu, h1.2]
      case skip => rw [hu, h1.2]
      case enter f args => exact absurd rfl (h2 f args w' hw)
    | halt x w' => simp only [Oper.quietUpon] at h1

/-- is it an operation that enters no function -/
def plainOp : Op → Bool
  | .move _ | .assign _ | .pick .. | .load .. | .binOp .. | .unOp .. | .convert .. | .indexAddr .. | .fieldAddr .. | .field .. | .index .. => true
  | .call { callee := .builtin .len, .. } => true
  | _ => false

theorem bind_noEnter {α : Type} {s : Sem α} {g : α → Value} {f : FuncId} {args : Array Value} {w w' : World} : (do let x ← s; pure (Next.value (g x)) : Sem Next).run P w ≠ .ok (.enter f args) w' := by
  rw [Sem.run_bind]
  cases s.run P w with
  | ok x w1 => intro h; cases h
  | halt h w1 => intro h; cases h

theorem plain_noEnter {o : Oper} {a : Act} (h : plainOp o.op = true) (w : World) (f : FuncId) (args : Array Value) (w' : World) : (execOp a.eval o).run P w ≠ .ok (.enter f args) w' := by
  unfold execOp
  cases e : o.op <;> simp only [e, plainOp] at h <;> first | (cases h; done) | skip
  all_goals simp only
  case move => intro h; cases h
  case assign => intro h; cases h
  case call c =>
    obtain ⟨callee, cargs, ct⟩ := c
    cases callee with
    | builtin b =>
      cases b <;> first | (cases h; done) | skip
      simp only [resolve, Sem.run_bind, Sem.run_pure, Result.andThen_ok, invoke, builtin]
      cases Sem.run P (Builtin.len_ ct o.type (Array.map a.eval cargs)) w with
      | ok x w1 => intro h; cases h
      | halt h w1 => intro h; cases h
    | _ => cases h
  case pick => exact bind_noEnter
  all_goals exact bind_noEnter (g := id)

theorem wpLoose_plain (hp : plainOp o.op = true)
    (h : ∀ K : Act → Prop, (∀ a, wpLoose P ops C Sg Q rest a → K a) → if Region.wanted o (yielded ops a.tmps) then o.quiet P a C K else K (a.put o.dst undef)) : wpLoose P ops C Sg Q (o :: rest) a := by
  have h' := h (wpLoose P ops C Sg Q rest) (fun _ h => h)
  unfold wpLoose
  split
  · rename_i hw
    rw [if_pos hw] at h'
    obtain ⟨v, h1, h2⟩ := h'
    obtain ⟨g1, g2⟩ := good_of_quiet (Sg := Sg) h1 (fun w f args w' _ => plain_noEnter hp w f args w')
    exact ⟨g1, fun u hu => by rw [g2 u hu]; exact h2⟩
  · rename_i hw
    rw [if_neg hw] at h'
    exact h'

/-- an operation that hands back any of several values -/
theorem wpLoose_some (hgd : o.guard = none) (V : Value → Prop) (hv : ∀ w, C w → ∃ v w', V v ∧ C w' ∧ (execOp a.eval o).run P w = .ok (.value v) w') (h : ∀ v, V v → wpLoose P ops C Sg Q rest (a.put o.dst v)) : wpLoose P ops C Sg Q (o :: rest) a := by
  have hw : Region.wanted o (yielded ops a.tmps) = true := by simp [Region.wanted, hgd]
  unfold wpLoose
  rw [if_pos hw]
  refine ⟨fun w hw => ?_, ?_⟩
  · obtain ⟨v, w', _, hc, e⟩ := hv w hw
    rw [e]; exact hc
  · rintro u ⟨w, hw, hu⟩
    obtain ⟨v, w', hV, hc, e⟩ := hv w hw
    rw [e] at hu
    change u = v at hu
    subst hu
    exact h _ hV

abbrev Drawn (w : World) : World → Prop := fun w' => ∃ n, w' = w.drewN n

theorem drawn_again {w w' : World} (h : Drawn w w') (j : Nat) : Drawn w (w'.drewN j) := by
  obtain ⟨n, rfl⟩ := h
  exact ⟨n + j, by rw [World.drewN_drewN]⟩

theorem wpLoose_up (hgd : o.guard = none) {S D : TypeId} (hs : P.underlying S = some (.float .f32)) (hd : P.underlying D = some (.float .f64)) (x : Operand) (ho : o.op = .convert S D x) (m : Nat)
    (hx : a.eval x = .float .f32 m) (h : ∀ r, UR m r → wpLoose P ops (Drawn w) Sg Q rest (a.put o.dst (.float .f64 r))) : wpLoose P ops (Drawn w) Sg Q (o :: rest) a := by
  refine wpLoose_some hgd (fun v => ∃ r, UR m r ∧ v = .float .f64 r) (fun w1 hw1 => ?_) (fun v ⟨r, hr, e⟩ => by rw [e]; exact h r hr)
  obtain ⟨r, j, hr, hw⟩ := run_up hs hd m w1
  refine ⟨_, _, ⟨r, hr, rfl⟩, drawn_again hw1 j, ?_⟩
  unfold execOp
  simp only [ho, hx, Sem.run_bind, Sem.run_pure, Result.andThen_ok, hw]

theorem wpLoose_down (hgd : o.guard = none) {S D : TypeId} (hs : P.underlying S = some (.float .f64)) (hd : P.underlying D = some (.float .f32)) (x : Operand) (ho : o.op = .convert S D x) (m : Nat)
    (hx : a.eval x = .float .f64 m) (h : ∀ r, DR m r → wpLoose P ops (Drawn w) Sg Q rest (a.put o.dst (.float .f32 r))) : wpLoose P ops (Drawn w) Sg Q (o :: rest) a := by
  refine wpLoose_some hgd (fun v => ∃ r, DR m r ∧ v = .float .f32 r) (fun w1 hw1 => ?_) (fun v ⟨r, hr, e⟩ => by rw [e]; exact h r hr)
  obtain ⟨r, j, hr, hw⟩ := run_down hs hd m w1
  refine ⟨_, _, ⟨r, hr, rfl⟩, drawn_again hw1 j, ?_⟩
  unfold execOp
  simp only [ho, hx, Sem.run_bind, Sem.run_pure, Result.andThen_ok, hw]

theorem wpLoose_farith (hgd : o.guard = none) (op : BinOp) (t : TypeId) (x y : Operand) (t' : TypeId) (ho : o.op = .binOp op t x y t') (hop : isArith op = true) (k : FloatKind) (m n : Nat)
    (hx : a.eval x = .float k m) (hy : a.eval y = .float k n) (h : ∀ r, FR op k m n r → wpLoose P ops (Drawn w) Sg Q rest (a.put o.dst (.float k r))) : wpLoose P ops (Drawn w) Sg Q (o :: rest) a := by
  refine wpLoose_some hgd (fun v => ∃ r, FR op k m n r ∧ v = .float k r) (fun w1 hw1 => ?_) (fun v ⟨r, hr, e⟩ => by rw [e]; exact h r hr)
  obtain ⟨r, j, hr, hw⟩ := run_farith (P := P) op hop t k m n w1
  refine ⟨_, _, ⟨r, hr, rfl⟩, drawn_again hw1 j, ?_⟩
  have hg : (eqGuard op t x y (.float k m) (.float k n)) = pure () := by
    cases op <;> simp [isArith] at hop <;> rfl
  unfold execOp
  simp only [ho, hx, hy, hg, Sem.run_bind, Sem.run_pure, Result.andThen_ok, hw]

/-- a call of a function, by its contract -/
theorem wpLoose_call (hgd : o.guard = none) (f : FuncId) (args : Array Value) (hr : ∀ w1, (execOp a.eval o).run P w1 = .ok (.enter f args) w1)
    (hc : ∀ w1, Drawn w w1 → Calls P f args w1 fun e w2 => ∃ v, e = .returned v ∧ Sg f args v ∧ Drawn w1 w2) (h : ∀ v, Sg f args v → wpLoose P ops (Drawn w) Sg Q rest (a.put o.dst v)) : wpLoose P ops (Drawn w) Sg Q (o :: rest) a := by
  have hw : Region.wanted o (yielded ops a.tmps) = true := by simp [Region.wanted, hgd]
  unfold wpLoose
  rw [if_pos hw]
  refine ⟨fun w1 hw1 => ?_, ?_⟩
  · rw [hr w1]
    refine ⟨hw1, (hc w1 hw1).mono fun e w2 ⟨v, he, hs, m, hm⟩ => ⟨v, he, hs, ?_⟩⟩
    rw [hm]; exact drawn_again hw1 m
  · rintro u ⟨w1, hw1, hu⟩
    rw [hr w1] at hu
    exact h _ hu
end
end Go.Proofs.Ythfkmcpajookaaa

/- A slice of 32-bit numbers, as a list of their bits. -/
namespace Go.Proofs.Ythfkmcpajookaaa
open Go.RowKit

/-- a new row: the call hands back a slice that reads as zs, and nothing that was there has turned -/
def NewRow (zs : List Nat) (w : World) (e : Ending) (w' : World) : Prop := ∃ v, e = .returned v ∧ FRow w' v zs ∧ Below w.heap.size w w'

theorem Try.rowOf32 : (Try.prog.info? 22).map (fun i => (i.zero, i.size, i.bytes)) = some (some (.float .f32 0), 1, 4) := by kernel_rfl

def part (zs : List Nat) (k i : Nat) : Value := .float .f32 (if i < k then zs.getD i 0 else 0)

theorem row_of_part {wr : World} {b : Nat} {zs : List Nat} (h : wr.rowIs b 22 zs.length (part zs zs.length)) (hm : zs.length ≤ maxLen) : FRow wr (.slice (some ⟨b, 0, none⟩) zs.length zs.length) zs := by
  refine .inr ⟨b, 0, _, rfl, hm, fun i hi => ?_⟩
  have := h.cell hi
  rw [Nat.zero_add, this]
  simp [part, hi]

/-- .. in a block of its own, the first behind those that were there -/
def NewAt (zs : List Nat) (w : World) (e : Ending) (w' : World) : Prop :=
  e = .returned (.slice (some ⟨w.heap.size, 0, none⟩) zs.length zs.length) ∧ FRow w' (.slice (some ⟨w.heap.size, 0, none⟩) zs.length zs.length) zs ∧ Below w.heap.size w w' ∧ Cells w' w.heap.size (zs.map (.float .f32))

theorem cells_of_part {wr : World} {b : Nat} {zs : List Nat} (h : wr.rowIs b 22 zs.length (part zs zs.length)) (hb : b < wr.heap.size) : Cells wr b (zs.map (.float .f32)) := by
  refine ⟨fun i v hv => ?_, fun i => h.frozen i, hb⟩
  have hi : i < zs.length := by
    have := (List.getElem?_eq_some_iff.1 hv).1
    simpa using this
  rw [h.cell hi]
  simp [hi] at hv
  simp [part, hi, hv, List.getD_eq_getElem?_getD]

set_option maxHeartbeats 800000 in
theorem toF_new (v : Value) (zs : List Nat) (w : World) (h : FRow w v zs) (hl : zs.length ≤ 1048576) :
    Calls Try.prog 49 #[v] w (NewAt zs w) := by
  rcases h with ⟨⟨a0, c0, rfl⟩, rfl⟩ | ⟨b, off, cap, rfl, hm, hc⟩
  · have hmk : ∀ w, (Instr.makeSlice 23 (.int .i64 0) (.int .i64 0)).run Try.prog w = .ok (.slice (some ⟨w.heap.size, 0, none⟩) 0 0) (w.alloc (.cells (madeCells #[.float .f32 0] 0) 22)) := run_make_row' (P := Try.prog) 23 22 (.float .f32 0) 4 Try.underlying23 Try.rowOf32 rfl .i64 .i64 0 (by omega) (by omega)
    go_enter Try.func49, Try.ntmps49
    go_wp2
    go_loopw [4] (fun i wr => i = .int .i64 0 ∧ wr = w.alloc (.cells (madeCells #[.float .f32 0] 0) 22)) (fun i _ => 0)
    case atStart => exact ⟨rfl, rfl⟩
    case round =>
      obtain ⟨rfl, rfl⟩ := hrel
      go_wp2
      go_ret
      exact ⟨rfl, .inl ⟨⟨_, _, rfl⟩, rfl⟩, (Below.refl _ _).alloc (Nat.le_refl _) _, fun i v hv => by simp at hv, fun i => by simp, by simp⟩
  · generalize hn : zs.length = n at *
    have Hn := Lib.hid hn
    clear hn
    have hmk := run_make_row' (P := Try.prog) 23 22 (.float .f32 0) 4 Try.underlying23 Try.rowOf32 rfl .i64 .i64 n (by omega) (by omega)
    go_enter Try.func49, Try.ntmps49
    go_wp2
    go_loopw [4] (fun i wr => ∃ k : Nat, k ≤ n ∧ i = .int .i64 k ∧ Below w.heap.size w wr ∧ wr.rowIs w.heap.size 22 n (part zs k)) (fun i _ => n - (intOf i).toNat)
    case atStart => exact ⟨0, Nat.zero_le _, rfl, (Below.refl _ _).alloc (Nat.le_refl _) _, (World.rowIs_made w (.float .f32 0) n 22).congr (fun i _ => by simp [part])⟩
    case round =>
      obtain ⟨k, hk, rfl, hb, hr⟩ := hrel
      by_cases hlt : k < n
      · have h1 := hc k hlt
        have h2 : wr.cell? ⟨b, off + k, none⟩ = some (.float .f32 (zs.getD k 0)) := by rw [hb.cell (p := ⟨b, off + k, none⟩) (cell_lt h1)]; exact h1
        have h3 : wr.cell? ⟨w.heap.size, k, none⟩ = some (part zs k k) := hr.cell hlt
        have h4 : wr.frozen? ⟨w.heap.size, k, none⟩ = false := hr.frozen k
        have hr' := Lib.hid (hr.set k (.float .f32 (zs.getD k 0)))
        have hb' := Lib.hid (hb.setCell (p := ⟨w.heap.size, k, none⟩) (Nat.le_refl _) (.float .f32 (zs.getD k 0)))
        clear hmk hc h1 hb hr
        go_wp2
        go_roundw
        case rel =>
          refine ⟨k + 1, by omega, by go_num, by simpa using hb'.out, ?_⟩
          have := hr'.out
          refine World.rowIs.congr (by simpa using this) (fun i _ => ?_)
          simp only [part]
          by_cases e : i = k
          · subst e; simp
          · rw [if_neg e]
            by_cases h : i < k
            · rw [if_pos h, if_pos (by omega)]
            · rw [if_neg h, if_neg (by omega)]
        case measure => simp [intOf]; omega
      · have e : k = n := by omega
        have hr' := Lib.hid hr
        have hb' := Lib.hid (And.intro hb hr.lt)
        have He := Lib.hid e
        clear hmk hc hb hr e
        go_wp2
        go_ret
        have hr := hr'.out
        have hz := Hn.out
        have := He.out
        subst this
        subst hz
        exact ⟨rfl, row_of_part hr hm, hb'.out.1, cells_of_part hr hb'.out.2⟩

theorem toF_any (v : Value) (zs : List Nat) (w : World) (h : FRow w v zs) (hl : zs.length ≤ 1048576) :
    Calls Try.prog 49 #[v] w (NewRow zs w) := (toF_new v zs w h hl).mono fun _ _ ⟨he, hf, hb, _⟩ => ⟨_, he, hf, hb⟩

/-- two lists of numbers that are the same -/
def SameList (zs ys : List Nat) : Prop := zs.length = ys.length ∧ ∀ i, i < zs.length → cn .f32 (zs.getD i 0) = cn .f32 (ys.getD i 0)
theorem SameList.refl (zs : List Nat) : SameList zs zs := ⟨rfl, fun _ _ => rfl⟩

theorem FRow.empty {w : World} {v : Value} (h : FRow w v []) : ∃ a c, v = .slice a 0 c := by
  rcases h with ⟨h, _⟩ | ⟨b, off, cap, rfl, _⟩
  · exact h
  · exact ⟨_, _, rfl⟩

theorem eqF_empty (a a' : Option Addr) (c c' : Nat) (w : World) : Calls Try.prog 38 #[.slice a 0 c, .slice a' 0 c'] w (Yes w) := by
  go_enter Try.func38, Try.ntmps38
  go_wp2
  go_loop [5] (fun i => i = .int .i64 0) (fun _ => 0)
  case atStart => rfl
  case round =>
    obtain rfl := hrel
    go_wp2
    go_ret
    exact Yes.same

set_option maxHeartbeats 800000 in
theorem eqF_rows (zs ys : List Nat) (b off cap b' off' cap' : Nat) (w : World) (n : Nat) (hn : zs.length = n) (hm : n ≤ maxLen) (hs : ∀ i, i < n → cn .f32 (zs.getD i 0) = cn .f32 (ys.getD i 0))
    (hc : ∀ i, i < n → w.cell? ⟨b, off + i, none⟩ = some (.float .f32 (zs.getD i 0))) (hc' : ∀ i, i < n → w.cell? ⟨b', off' + i, none⟩ = some (.float .f32 (ys.getD i 0))) :
    Calls Try.prog 38 #[.slice (some ⟨b, off, none⟩) n cap, .slice (some ⟨b', off', none⟩) n cap'] w (Yes w) := by
  unfold maxLen at hm
  have Hs := Lib.hid hs
  have Hn := Lib.hid hn
  clear hs hn
  go_enter Try.func38, Try.ntmps38
  go_wp2
  go_loopw [5] (fun i wr => ∃ k q : Nat, k ≤ n ∧ i = .int .i64 k ∧ wr = w.drewN q) (fun i _ => n - (intOf i).toNat)
  case atStart => exact ⟨0, 0, Nat.zero_le _, rfl, rfl⟩
  case round =>
    obtain ⟨k, q, hk, rfl, rfl⟩ := hrel
    by_cases hlt : k < n
    · have h1 := hc k hlt
      have h2 := hc' k hlt
      have hz := Lib.hid (Hs.out k hlt)
      clear hc hc'
      have hi : (0 : Int) ≤ (k : Int) := by omega
      have hi' : (k : Int) < (n : Int) := by omega
      go_wp2
      refine wp_region_loose (fun _ _ v => v = .bool true) (by kernel_rfl) (by kernel_rfl) ?_
      (refine wpLoose_plain rfl (fun K hK => ?_); go_simp; refine hK _ ?_; clear hK K)
      (refine wpLoose_plain rfl (fun K hK => ?_); go_simp; refine hK _ ?_; clear hK K)
      (refine wpLoose_plain rfl (fun K hK => ?_); go_simp; refine hK _ ?_; clear hK K)
      (refine wpLoose_plain rfl (fun K hK => ?_); go_simp; refine hK _ ?_; clear hK K)
      (refine wpLoose_up rfl Try.underlying22 Try.underlying77 _ rfl _ rfl ?_; intro _ _)
      (refine wpLoose_plain rfl (fun K hK => ?_); go_simp; refine hK _ ?_; clear hK K)
      (refine wpLoose_plain rfl (fun K hK => ?_); go_simp; refine hK _ ?_; clear hK K)
      (refine wpLoose_plain rfl (fun K hK => ?_); go_simp; refine hK _ ?_; clear hK K)
      (refine wpLoose_plain rfl (fun K hK => ?_); go_simp; refine hK _ ?_; clear hK K)
      (refine wpLoose_up rfl Try.underlying22 Try.underlying77 _ rfl _ rfl ?_; intro _ _)
      rename_i r1 hu1 r2 hu2
      refine wpLoose_call rfl 69 #[.float .f64 r1, .float .f64 r2] (fun w1 => ?_) (fun w1 _ => ?_) ?_
      · go_simp
      · refine (same_end w1 hu1 hu2 (by simpa using hz.out)).mono ?_
        rintro e w2 ⟨rfl, m, rfl⟩
        exact ⟨_, rfl, rfl, m, rfl⟩
      rintro v rfl
      (refine wpLoose_plain rfl (fun K hK => ?_); go_simp; refine hK _ ?_; clear hK K)
      (refine wpLoose_nil ?_; rintro _ ⟨nq, rfl⟩)
      go_wp2
      go_roundw
      case rel => exact ⟨k + 1, _, by omega, by go_num, rfl⟩
      case measure => simp [intOf]; omega
    · clear hc hc'
      go_wp2
      go_ret
      exact Yes.drewN

/-- two slices of numbers that are the same, and slices of numbers alone -/
theorem eqF_any (v v' : Value) (zs ys : List Nat) (w : World) (h : FRow w v zs) (h' : FRow w v' ys) (hs : SameList zs ys) :
    Calls Try.prog 38 #[v, v'] w (Yes w) := by
  obtain ⟨hl, hs⟩ := hs
  by_cases h0 : zs.length = 0
  · obtain rfl : zs = [] := List.length_eq_zero_iff.1 h0
    obtain rfl : ys = [] := List.length_eq_zero_iff.1 hl.symm
    obtain ⟨a, c, rfl⟩ := h.empty
    obtain ⟨a', c', rfl⟩ := h'.empty
    exact eqF_empty a a' c c' w
  · rcases h with ⟨_, rfl⟩ | ⟨b, off, cap, rfl, hm, hc⟩
    · exact absurd rfl h0
    · rcases h' with ⟨_, rfl⟩ | ⟨b', off', cap', rfl, hm', hc'⟩
      · exact absurd hl h0
      · rw [← hl] at hc' ⊢
        exact eqF_rows zs ys b off cap b' off' cap' w zs.length rfl hm hs hc hc'
end Go.Proofs.Ythfkmcpajookaaa

/- Copies of lists in blocks of their own. -/
namespace Go.Proofs.Ythfkmcpajookaaa
open Go.RowKit

def NewSl (zs : List Nat) (w : World) (e : Ending) (w' : World) : Prop := ∃ p, e = .returned (sl p zs) ∧ w.heap.size ≤ p ∧ Cells w' p (fl zs) ∧ Below w.heap.size w w'
theorem toF_sl (v : Value) (zs : List Nat) (w : World) (h : FRow w v zs) (hl : zs.length ≤ 1048576) : Calls Try.prog 49 #[v] w (NewSl zs w) :=
  (toF_new v zs w h hl).mono fun _ _ ⟨he, _, hb, hc⟩ => ⟨_, he, Nat.le_refl _, hc, hb⟩

/-- true, and nothing that was there has turned -/
def YesB (w : World) (e : Ending) (w' : World) : Prop := e = .returned (.bool true) ∧ Below w.heap.size w w'
/-- how a slice's length is taken from what is left -/
theorem sz32_fit (a : Option Addr) (n c left : Nat) (w : World) (hn : n ≤ left) (hl : left ≤ 1048576) :
    Calls Try.prog 44 #[.slice a n c, .int .i64 left] w fun e w' => e = .returned (.int .i64 ((left - n : Nat) : Int)) ∧ w = w' := by
  have e : ((left : Int) - (n : Int)) = ((left - n : Nat) : Int) := by omega
  go_enter Try.func44, Try.ntmps44
  go_wp2
  go_ret
  exact ⟨by simp, rfl⟩

theorem sz32_over (a : Option Addr) (n c left : Nat) (w : World) (hn : left < n) (hm : n ≤ 9223372036854775807) (hl : left ≤ 1048576) :
    Calls Try.prog 44 #[.slice a n c, .int .i64 left] w fun e w' => e = .returned (.int .i64 (-1)) ∧ w = w' := by
  go_enter Try.func44, Try.ntmps44
  go_wp2
  go_ret
  exact ⟨rfl, rfl⟩
end Go.Proofs.Ythfkmcpajookaaa

/- A slice of bools, as a list: what it is, its copy, its size. -/
namespace Go.Proofs.Ythfkmcpajookaaa
open Go.RowKit
set_option linter.unusedVariables false

/-- the value v reads as the list zs of numbers: empty, or a row of cells -/
def BRow (w : World) (v : Value) (zs : List Bool) : Prop :=
  ((∃ a c, v = .slice a 0 c) ∧ zs = []) ∨
  ∃ b off cap, v = .slice (some ⟨b, off, none⟩) zs.length cap ∧ zs.length ≤ maxLen ∧ ∀ i, i < zs.length → w.cell? ⟨b, off + i, none⟩ = some (.bool (zs.getD i false))

theorem BRow.below {w w' : World} {v : Value} {zs : List Bool} (h : BRow w v zs) (hb : Below w.heap.size w w') : BRow w' v zs := by
  rcases h with h | ⟨b, off, cap, e, hm, hc⟩
  · exact .inl h
  · refine .inr ⟨b, off, cap, e, hm, fun i hi => ?_⟩
    have := hc i hi
    rw [hb.cell (p := ⟨b, off + i, none⟩) (cell_lt this)]
    exact this

theorem BRow.drewN {w : World} {v : Value} {zs : List Bool} {n : Nat} (h : BRow w v zs) : BRow (w.drewN n) v zs := h


/-- how long a slice is -/
theorem BRow.shape {w : World} {v : Value} {zs : List Bool} (h : BRow w v zs) : ∃ a cap, v = .slice a zs.length cap := by
  rcases h with ⟨h, rfl⟩ | ⟨b, off, cap, rfl, _⟩
  · exact h
  · exact ⟨_, _, rfl⟩

abbrev slb (p : Nat) (zs : List Bool) : Value := .slice (some ⟨p, 0, none⟩) zs.length zs.length
def flb (zs : List Bool) : List Value := zs.map .bool
theorem BRow.of_cells {w : World} {p : Nat} {zs : List Bool} (h : Cells w p (flb zs)) (hm : zs.length ≤ maxLen) : BRow w (slb p zs) zs :=
  .inr ⟨p, 0, _, rfl, hm, fun i hi => by rw [Nat.zero_add]; exact h.1 i _ (by simp [flb, hi, List.getD_eq_getElem?_getD])⟩

theorem BRow.cells {w : World} {v : Value} {zs : List Bool} (h : BRow w v zs) (hn : 1 ≤ zs.length) : ∃ b off cap, v = .slice (some ⟨b, off, none⟩) zs.length cap ∧ ∀ i, i < zs.length → w.cell? ⟨b, off + i, none⟩ = some (.bool (zs.getD i false)) := by
  rcases h with ⟨_, rfl⟩ | ⟨b, off, cap, e, hm, hc⟩
  · simp at hn
  · exact ⟨b, off, cap, e, hc⟩

theorem BRow.len {w : World} {v : Value} {zs : List Bool} (h : BRow w v zs) : zs.length ≤ 9223372036854775807 := by
  rcases h with ⟨_, rfl⟩ | ⟨_, _, _, _, hm, _⟩
  · simp
  · exact hm

/-- a new row: the call hands back a slice that reads as zs, and nothing that was there has turned -/
def NewBRow (zs : List Bool) (w : World) (e : Ending) (w' : World) : Prop := ∃ v, e = .returned v ∧ BRow w' v zs ∧ Below w.heap.size w w'

theorem Try.rowOfB : (Try.prog.info? 4).map (fun i => (i.zero, i.size, i.bytes)) = some (some (.bool false), 1, 1) := by kernel_rfl

def partB (zs : List Bool) (k i : Nat) : Value := .bool (if i < k then zs.getD i false else false)

theorem row_of_partB {wr : World} {b : Nat} {zs : List Bool} (h : wr.rowIs b 4 zs.length (partB zs zs.length)) (hm : zs.length ≤ maxLen) : BRow wr (.slice (some ⟨b, 0, none⟩) zs.length zs.length) zs := by
  refine .inr ⟨b, 0, _, rfl, hm, fun i hi => ?_⟩
  have := h.cell hi
  rw [Nat.zero_add, this]
  simp [partB, hi]

/-- .. in a block of its own, the first behind those that were there -/
def NewBAt (zs : List Bool) (w : World) (e : Ending) (w' : World) : Prop :=
  e = .returned (.slice (some ⟨w.heap.size, 0, none⟩) zs.length zs.length) ∧ BRow w' (.slice (some ⟨w.heap.size, 0, none⟩) zs.length zs.length) zs ∧ Below w.heap.size w w' ∧ Cells w' w.heap.size (zs.map .bool)

theorem cells_of_partB {wr : World} {b : Nat} {zs : List Bool} (h : wr.rowIs b 4 zs.length (partB zs zs.length)) (hb : b < wr.heap.size) : Cells wr b (zs.map .bool) := by
  refine ⟨fun i v hv => ?_, fun i => h.frozen i, hb⟩
  have hi : i < zs.length := by
    have := (List.getElem?_eq_some_iff.1 hv).1
    simpa using this
  rw [h.cell hi]
  simp [hi] at hv
  simp [partB, hi, hv, List.getD_eq_getElem?_getD]

set_option maxHeartbeats 800000 in
theorem toB_new (v : Value) (zs : List Bool) (w : World) (h : BRow w v zs) (hl : zs.length ≤ 1048576) :
    Calls Try.prog 50 #[v] w (NewBAt zs w) := by
  rcases h with ⟨⟨a0, c0, rfl⟩, rfl⟩ | ⟨b, off, cap, rfl, hm, hc⟩
  · have hmk : ∀ w, (Instr.makeSlice 24 (.int .i64 0) (.int .i64 0)).run Try.prog w = .ok (.slice (some ⟨w.heap.size, 0, none⟩) 0 0) (w.alloc (.cells (madeCells #[.bool false] 0) 4)) := run_make_row' (P := Try.prog) 24 4 (.bool false) 1 Try.underlying24 Try.rowOfB rfl .i64 .i64 0 (by omega) (by omega)
    go_enter Try.func50, Try.ntmps50
    go_wp2
    go_loopw [4] (fun i wr => i = .int .i64 0 ∧ wr = w.alloc (.cells (madeCells #[.bool false] 0) 4)) (fun i _ => 0)
    case atStart => exact ⟨rfl, rfl⟩
    case round =>
      obtain ⟨rfl, rfl⟩ := hrel
      go_wp2
      go_ret
      exact ⟨rfl, .inl ⟨⟨_, _, rfl⟩, rfl⟩, (Below.refl _ _).alloc (Nat.le_refl _) _, fun i v hv => by simp at hv, fun i => by simp, by simp⟩
  · generalize hn : zs.length = n at *
    have Hn := Lib.hid hn
    clear hn
    have hmk := run_make_row' (P := Try.prog) 24 4 (.bool false) 1 Try.underlying24 Try.rowOfB rfl .i64 .i64 n (by omega) (by omega)
    go_enter Try.func50, Try.ntmps50
    go_wp2
    go_loopw [4] (fun i wr => ∃ k : Nat, k ≤ n ∧ i = .int .i64 k ∧ Below w.heap.size w wr ∧ wr.rowIs w.heap.size 4 n (partB zs k)) (fun i _ => n - (intOf i).toNat)
    case atStart => exact ⟨0, Nat.zero_le _, rfl, (Below.refl _ _).alloc (Nat.le_refl _) _, (World.rowIs_made w (.bool false) n 4).congr (fun i _ => by simp [partB])⟩
    case round =>
      obtain ⟨k, hk, rfl, hb, hr⟩ := hrel
      by_cases hlt : k < n
      · have h1 := hc k hlt
        have h2 : wr.cell? ⟨b, off + k, none⟩ = some (.bool (zs.getD k false)) := by rw [hb.cell (p := ⟨b, off + k, none⟩) (cell_lt h1)]; exact h1
        have h3 : wr.cell? ⟨w.heap.size, k, none⟩ = some (partB zs k k) := hr.cell hlt
        have h4 : wr.frozen? ⟨w.heap.size, k, none⟩ = false := hr.frozen k
        have hr' := Lib.hid (hr.set k (.bool (zs.getD k false)))
        have hb' := Lib.hid (hb.setCell (p := ⟨w.heap.size, k, none⟩) (Nat.le_refl _) (.bool (zs.getD k false)))
        clear hmk hc h1 hb hr
        go_wp2
        go_roundw
        case rel =>
          refine ⟨k + 1, by omega, by go_num, by simpa using hb'.out, ?_⟩
          have := hr'.out
          refine World.rowIs.congr (by simpa using this) (fun i _ => ?_)
          simp only [partB]
          by_cases e : i = k
          · subst e; simp
          · rw [if_neg e]
            by_cases h : i < k
            · rw [if_pos h, if_pos (by omega)]
            · rw [if_neg h, if_neg (by omega)]
        case measure => simp [intOf]; omega
      · have e : k = n := by omega
        have hr' := Lib.hid hr
        have hb' := Lib.hid (And.intro hb hr.lt)
        have He := Lib.hid e
        clear hmk hc hb hr e
        go_wp2
        go_ret
        have hr := hr'.out
        have hz := Hn.out
        have := He.out
        subst this
        subst hz
        exact ⟨rfl, row_of_partB hr hm, hb'.out.1, cells_of_partB hr hb'.out.2⟩

def NewBSl (zs : List Bool) (w : World) (e : Ending) (w' : World) : Prop := ∃ p, e = .returned (slb p zs) ∧ w.heap.size ≤ p ∧ Cells w' p (flb zs) ∧ Below w.heap.size w w'
theorem toB_sl (v : Value) (zs : List Bool) (w : World) (h : BRow w v zs) (hl : zs.length ≤ 1048576) : Calls Try.prog 50 #[v] w (NewBSl zs w) :=
  (toB_new v zs w h hl).mono fun _ _ ⟨he, _, hb, hc⟩ => ⟨_, he, Nat.le_refl _, hc, hb⟩

/-- how a slice's length is taken from what is left -/
theorem szB_fit (a : Option Addr) (n c left : Nat) (w : World) (hn : n ≤ left) (hl : left ≤ 1048576) :
    Calls Try.prog 45 #[.slice a n c, .int .i64 left] w fun e w' => e = .returned (.int .i64 ((left - n : Nat) : Int)) ∧ w = w' := by
  have e : ((left : Int) - (n : Int)) = ((left - n : Nat) : Int) := by omega
  go_enter Try.func45, Try.ntmps45
  go_wp2
  go_ret
  exact ⟨by simp, rfl⟩

theorem szB_over (a : Option Addr) (n c left : Nat) (w : World) (hn : left < n) (hm : n ≤ 9223372036854775807) (hl : left ≤ 1048576) :
    Calls Try.prog 45 #[.slice a n c, .int .i64 left] w fun e w' => e = .returned (.int .i64 (-1)) ∧ w = w' := by
  go_enter Try.func45, Try.ntmps45
  go_wp2
  go_ret
  exact ⟨rfl, rfl⟩
end Go.Proofs.Ythfkmcpajookaaa

/- Whether a number is finite: the code's own functions. -/
namespace Go.Proofs.Ythfkmcpajookaaa
open Go.RowKit

theorem abs_any (r : Nat) (w : World) (hr : (Lit.float .f64 r).wf = true) : Calls Try.prog 94 #[.float .f64 r] w fun e w' => e = .returned (.float .f64 (r % 9223372036854775808)) ∧ w = w' := by
  have e := abs_bits r (wf64 hr)
  go_enter Try.func94, Try.ntmps94
  go_wp2
  go_ret
  exact ⟨by simp, rfl⟩

theorem isFiniteLong_any (r : Nat) (w : World) (hr : (Lit.float .f64 r).wf = true) :
    Calls Try.prog 72 #[.float .f64 r] w fun e w' => e = .returned (.bool (fin .f64 r)) ∧ w = w' := by
  have ho := order_self (k := .f64) (x := r)
  cases hn : nn .f64 r
  · rw [hn] at ho; simp only [Bool.false_eq_true, if_false] at ho
    have hg := abs_gt r hn
    go_enter Try.func72, Try.ntmps72
    go_wp2_with (first | (go_at_call 94; refine (abs_any _ _ hr).mono ?_; rintro e w' ⟨rfl, rfl⟩) | go_in)
    go_ret
    exact ⟨by simp, rfl⟩
  · rw [hn] at ho; simp only [if_true] at ho
    have hf := fin_nan hn
    go_enter Try.func72, Try.ntmps72
    go_wp2_with go_in
    go_ret
    exact ⟨by simp [hf], rfl⟩

theorem isFiniteLong_up {a r : Nat} (w : World) (h : UR a r) :
    Calls Try.prog 72 #[.float .f64 r] w fun e w' => e = .returned (.bool (fin .f32 a)) ∧ w = w' :=
  (isFiniteLong_any r w h.2).mono fun _ _ ⟨he, hw⟩ => ⟨by rw [he, fin_up h], hw⟩

theorem implFinite_any (a : Nat) (w : World) : Calls Try.prog 51 #[.float .f32 a] w (Bol (fin .f32 a) w) := by
  go_enter Try.func51, Try.ntmps51
  go_wp2_with (first | (refine wpList_up rfl Try.underlying22 Try.underlying77 _ rfl _ rfl ?_; intro _ _ _) | (go_at_call 72; refine (isFiniteLong_up _ (by assumption)).mono ?_; rintro e w' ⟨rfl, rfl⟩))
  go_ret
  exact ⟨rfl, _, rfl⟩

theorem specFinite_any (a : Nat) (w : World) : Calls Try.prog 47 #[.float .f32 a] w (Bol (fin .f32 a) w) := by
  go_enter Try.func47, Try.ntmps47
  go_wp2_with (refine wpList_farith rfl _ _ _ _ _ rfl rfl _ _ _ rfl rfl ?_; intro _ _ _)
  go_ret
  rename_i h
  exact ⟨congrArg (fun b => Ending.returned (.bool b)) (sub_zero h), _, rfl⟩
end Go.Proofs.Ythfkmcpajookaaa

/- Numbers that are finite and greater than 0; whether two numbers are the same. -/
namespace Go.Proofs.Ythfkmcpajookaaa
open Go.RowKit

/-- greater than 0 -/
def gt0 (a : Nat) : Bool := FloatKind.f32.format.order a 0 == some .gt
/-- finite and greater than 0 -/
def pos (a : Nat) : Bool := fin .f32 a && gt0 a

/-- a bool, and nothing that was there has turned -/
def BolB (b : Bool) (w : World) (e : Ending) (w' : World) : Prop := e = .returned (.bool b) ∧ Below w.heap.size w w'
theorem Bol.below {b : Bool} {w : World} {e : Ending} {w' : World} (h : Bol b w e w') : BolB b w e w' := by
  obtain ⟨he, n, rfl⟩ := h
  exact ⟨he, below_drewN (Below.refl _ _) n⟩

theorem results_cell1 {fn : Func} {p : Tmp} {ty : TypeId} (h : fn.results = #[.cell p ty]) (tmps : Array Value) (P : Program) (w : World) :
    (results fn tmps).run P w = ((asAddr (tmps.getD p undef)).run P w).andThen fun a w₁ => (loadVar ty a).run P w₁ := by
  simp only [results, h]
  simp [Sem.run_bind, Result.andThen]


theorem ret_bb {x b : Bool} (h : x = b) : Ending.returned (.bool b) = Ending.returned (.bool x) := by rw [h]
end Go.Proofs.Ythfkmcpajookaaa

/- Numbers that are finite and greater than 0; whether two numbers are the same. -/
namespace Go.Proofs.Ythfkmcpajookaaa
open Go.RowKit

theorem specAbove_any (a : Nat) (w : World) : Calls Try.prog 55 #[.float .f32 a] w (Bol (pos a) w) := by
  cases hf : fin .f32 a
  · go_enter Try.func55, Try.ntmps55
    go_wp2_with (go_at_call 47; refine (specFinite_any _ _).mono ?_; rw [hf]; rintro e w' ⟨rfl, n, rfl⟩)
    go_ret
    exact ⟨by simp [pos, hf], _, rfl⟩
  · go_enter Try.func55, Try.ntmps55
    go_wp2_with (go_at_call 47; refine (specFinite_any _ _).mono ?_; rw [hf]; rintro e w' ⟨rfl, n, rfl⟩)
    go_ret
    exact ⟨by simp [pos, hf, gt0], _, rfl⟩

theorem implPos_any (a : Nat) (w : World) : Calls Try.prog 56 #[.float .f32 a] w (Bol (pos a) w) := by
  cases hf : fin .f32 a
  · go_enter Try.func56, Try.ntmps56
    go_wp2_with (go_at_call 51; refine (implFinite_any _ _).mono ?_; rw [hf]; rintro e w' ⟨rfl, n, rfl⟩)
    go_ret
    exact ⟨by simp [pos, hf], _, rfl⟩
  · go_enter Try.func56, Try.ntmps56
    go_wp2_with (go_at_call 51; refine (implFinite_any _ _).mono ?_; rw [hf]; rintro e w' ⟨rfl, n, rfl⟩)
    go_ret
    exact ⟨by simp [pos, hf, gt0], _, rfl⟩
end Go.Proofs.Ythfkmcpajookaaa

/- Drawn regions in which memory may be made besides: what is held of the world is that nothing that was there has turned. -/
namespace Go.Proofs.Ythfkmcpajookaaa
open Go.RowKit

section
variable {P : Program} {ops : Array Oper} {C : World → Prop} {Sg : FuncId → Array Value → Value → Prop}

theorem wp_region_looseC {id : Nat} {Q : Exit → Act → World → Prop} {a : Act} {w : World} {l : List Oper} (C : World → Prop) (Sg : FuncId → Array Value → Value → Prop) (hC : C (w.drewN 1)) (hm : P.follows .mixedOrders = true) (hB : Region.lexB .any l.toArray = true)
    (h : wpLoose P l.toArray C Sg (fun a' => ∀ w', C w' → Q .normal a' w') l a) : (Code.region id l.toArray true).wp P Q a w := by
  simp only [Region.lexB, Bool.and_eq_true] at hB
  refine wp_region_any hm (wpAny_of_loose (C := C) (Sg := Sg) (Q := fun a' => ∀ w', C w' → Q .normal a' w') (fun _ w' hw' h => h w' hw') _ _ _ _ hC ?_)
  have := wpAnyL_lex (C := C) (Sg := Sg) (md := .any) (w0 := w.drewN 1) hC hB.1 l 0 (Array.replicate l.length false) a (by simp) (by simpa using hB.2) h
  simpa using this

/-- nothing that was there has turned -/
abbrev Ext (w : World) : World → Prop := fun w' => Below w.heap.size w w'
theorem Ext.start (w : World) : Ext w (w.drewN 1) := below_drewN (Below.refl _ _) 1
theorem Ext.draw {w w' : World} (h : Ext w w') (j : Nat) : Ext w (w'.drewN j) := below_drewN h j

variable {Q : Act → Prop} {a : Act} {o : Oper} {rest : List Oper} {w : World}

theorem wpLoose_val (hgd : o.guard = none) (v : Value) (hv : ∀ w', C w' → (execOp a.eval o).run P w' = .ok (.value v) w') (h : wpLoose P ops C Sg Q rest (a.put o.dst v)) : wpLoose P ops C Sg Q (o :: rest) a :=
  wpLoose_some hgd (· = v) (fun w' hw' => ⟨v, w', rfl, hw', hv w' hw'⟩) (fun _ e => by rw [e]; exact h)

theorem wpLoose_valK (hgd : o.guard = none) (v : Value) (hv : ∀ w', C w' → (execOp a.eval o).run P w' = .ok (.value v) w') (h : ∀ K : Act → Prop, (∀ a, wpLoose P ops C Sg Q rest a → K a) → K (a.put o.dst v)) : wpLoose P ops C Sg Q (o :: rest) a :=
  wpLoose_val hgd v hv (h _ fun _ h => h)

theorem wpLoose_farithB (hgd : o.guard = none) (op : BinOp) (t : TypeId) (x y : Operand) (t' : TypeId) (ho : o.op = .binOp op t x y t') (hop : isArith op = true) (k : FloatKind) (m n : Nat)
    (hx : a.eval x = .float k m) (hy : a.eval y = .float k n) (h : ∀ r, FR op k m n r → wpLoose P ops (Ext w) Sg Q rest (a.put o.dst (.float k r))) : wpLoose P ops (Ext w) Sg Q (o :: rest) a := by
  refine wpLoose_some hgd (fun v => ∃ r, FR op k m n r ∧ v = .float k r) (fun w1 hw1 => ?_) (fun v ⟨r, hr, e⟩ => by rw [e]; exact h r hr)
  obtain ⟨r, j, hr, hw⟩ := run_farith (P := P) op hop t k m n w1
  refine ⟨_, _, ⟨r, hr, rfl⟩, Ext.draw hw1 j, ?_⟩
  have hg : (eqGuard op t x y (.float k m) (.float k n)) = pure () := by
    cases op <;> simp [isArith] at hop <;> rfl
  unfold execOp
  simp only [ho, hx, hy, hg, Sem.run_bind, Sem.run_pure, Result.andThen_ok, hw]

/-- a call of a function, by its contract -/
theorem wpLoose_callS (hgd : o.guard = none) (f : FuncId) (args : Array Value) (hr : ∀ w1, (execOp a.eval o).run P w1 = .ok (.enter f args) w1)
    (hc : ∀ w1, Ext w w1 → Calls P f args w1 fun e w2 => ∃ v, e = .returned v ∧ Sg f args v ∧ Below w1.heap.size w1 w2) (h : ∀ v, Sg f args v → wpLoose P ops (Ext w) Sg Q rest (a.put o.dst v)) :
    wpLoose P ops (Ext w) Sg Q (o :: rest) a := by
  have hw : Region.wanted o (yielded ops a.tmps) = true := by simp [Region.wanted, hgd]
  unfold wpLoose
  rw [if_pos hw]
  refine ⟨fun w1 hw1 => ?_, ?_⟩
  · rw [hr w1]
    exact ⟨hw1, (hc w1 hw1).mono fun e w2 ⟨v, he, hs, hb⟩ => ⟨v, he, hs, below_step hw1 hb⟩⟩
  · rintro u ⟨w1, hw1, hu⟩
    rw [hr w1] at hu
    exact h _ hu
end

/-- what was there is there -/
theorem Ext.cell {w w' : World} (h : Ext w w') {p i : Nat} {v : Value} (hv : w.cell? ⟨p, i, none⟩ = some v) : w'.cell? ⟨p, i, none⟩ = some v :=
  (Below.cell h (p := ⟨p, i, none⟩) (cell_lt hv)).trans hv
end Go.Proofs.Ythfkmcpajookaaa

/- Plates: their copies, their sizes, and the comparison of two plates. -/
namespace Go.Proofs.Ythfkmcpajookaaa
open Go.RowKit
set_option linter.unusedVariables false

/-- a plate: its width and height, warmths, eases, gains, and which cells are held -/
structure PL where
  X : Int
  Y : Int
  W : List Nat
  E : List Nat
  G : List Nat
  H : List Bool
def PL.size (r : PL) : Nat := r.W.length + r.E.length + r.G.length + r.H.length
/-- four slices read as the lists of a plate -/
structure PRow (w : World) (a b c d : Value) (r : PL) : Prop where
  W : FRow w a r.W
  E : FRow w b r.E
  G : FRow w c r.G
  H : BRow w d r.H
theorem PRow.below {w w' : World} {a b c d : Value} {r : PL} (h : PRow w a b c d r) (hb : Below w.heap.size w w') : PRow w' a b c d r :=
  ⟨h.W.below hb, h.E.below hb, h.G.below hb, h.H.below hb⟩
/-- the four blocks of a plate -/
structure PlateAt (w : World) (p0 p1 p2 p3 : Nat) (r : PL) : Prop where
  W : Cells w p0 (fl r.W)
  E : Cells w p1 (fl r.E)
  G : Cells w p2 (fl r.G)
  H : Cells w p3 (flb r.H)
  o01 : p0 < p1
  o12 : p1 < p2
  o23 : p2 < p3
theorem PlateAt.kept {w w' : World} {p0 p1 p2 p3 : Nat} {r : PL} (h : PlateAt w p0 p1 p2 p3 r) (hb : Below w.heap.size w w') : PlateAt w' p0 p1 p2 p3 r :=
  ⟨h.W.kept hb, h.E.kept hb, h.G.kept hb, h.H.kept hb, h.o01, h.o12, h.o23⟩
theorem PlateAt.row {w : World} {p0 p1 p2 p3 : Nat} {r : PL} (h : PlateAt w p0 p1 p2 p3 r) (hl : r.size ≤ 1048576) : PRow w (sl p0 r.W) (sl p1 r.E) (sl p2 r.G) (slb p3 r.H) r := by
  unfold PL.size at hl
  have hm : maxLen = 9223372036854775807 := rfl
  exact ⟨.of_cells h.W (by omega), .of_cells h.E (by omega), .of_cells h.G (by omega), .of_cells h.H (by omega)⟩
/-- a plate, by value, that reads so, in blocks of its own -/
def NewPlate (r : PL) (w : World) (e : Ending) (w' : World) : Prop :=
  ∃ p0 p1 p2 p3, e = .returned (.agg #[.int .i64 r.X, .int .i64 r.Y, sl p0 r.W, sl p1 r.E, sl p2 r.G, slb p3 r.H]) ∧ w.heap.size ≤ p0 ∧ PlateAt w' p0 p1 p2 p3 r ∧ Below w.heap.size w w'
/-- the cells of a plate -/
abbrev pvs (r : PL) (a b c d : Value) : List Value := [.int .i64 r.X, .int .i64 r.Y, a, b, c, d]
abbrev zpx (r : PL) : List Value := [.int .i64 r.X, .int .i64 r.Y, .slice none 0 0, .slice none 0 0, .slice none 0 0, .slice none 0 0]
abbrev zpl : List Value := [.int .i64 0, .int .i64 0, .slice none 0 0, .slice none 0 0, .slice none 0 0, .slice none 0 0]

set_option maxHeartbeats 1600000 in
set_option maxRecDepth 10000 in
theorem toPlate_any (a b c d : Value) (r : PL) (w : World) (h : PRow w a b c d r) (hl : r.size ≤ 1048576) : Calls Try.prog 17 #[.agg #[.int .i64 r.X, .int .i64 r.Y, a, b, c, d]] w (NewPlate r w) := by
  obtain ⟨hW, hE, hG, hH⟩ := h
  have HW := Lib.hid hW
  have HE := Lib.hid hE
  have HG := Lib.hid hG
  have HH := Lib.hid hH
  clear hW hE hG hH
  have lW : Hid (r.W.length ≤ 1048576) := Lib.hid (by unfold PL.size at hl; omega)
  have lE : Hid (r.E.length ≤ 1048576) := Lib.hid (by unfold PL.size at hl; omega)
  have lG : Hid (r.G.length ≤ 1048576) := Lib.hid (by unfold PL.size at hl; omega)
  have lH : Hid (r.H.length ≤ 1048576) := Lib.hid (by unfold PL.size at hl; omega)
  clear hl
  have A := Lib.hid (((Cells.made w (pvs r a b c d) 32).al (.cells zpl.toArray 26)).al (.cells (zpx r).toArray 26))
  have Y := (Cells.made (w.alloc (.cells (pvs r a b c d).toArray 32)) zpl 26).al (.cells (zpx r).toArray 26)
  rw [show (w.alloc (.cells (pvs r a b c d).toArray 32)).heap.size = w.heap.size + 1 from by simp] at Y
  have X := Cells.made ((w.alloc (.cells (pvs r a b c d).toArray 32)).alloc (.cells zpl.toArray 26)) (zpx r) 26
  rw [show ((w.alloc (.cells (pvs r a b c d).toArray 32)).alloc (.cells zpl.toArray 26)).heap.size = w.heap.size + 1 + 1 from by simp] at X
  have Y := Lib.hid Y
  have X := Lib.hid X
  have Bw := Lib.hid (below_al3 w (.cells (pvs r a b c d).toArray 32) (.cells zpl.toArray 26) (.cells (zpx r).toArray 26))
  go_enter Try.func17, Try.ntmps17
  go_wp2_with fail
  refine (toF_sl _ r.W _ (HW.out.below Bw.out) lW.out).mono ?_
  rintro _ w1 ⟨p0, rfl, hp, C0, hb⟩
  have q0 : Hid (w.heap.size + 2 < p0) := Lib.hid (Nat.lt_of_lt_of_le X.out.lt hp)
  have A := Lib.hid (A.out.kept hb)
  have X := Lib.hid (X.out.kept hb)
  have Y := Lib.hid (Y.out.kept hb)
  have Bw := Lib.hid (below_step Bw.out hb)
  have C0 := Lib.hid C0
  clear hb hp
  have c0 := A.out.at 0 rfl
  have c1 := A.out.at 1 rfl
  have c2 := A.out.at 2 rfl
  have c3 := A.out.at 3 rfl
  have c4 := A.out.at 4 rfl
  have c5 := A.out.at 5 rfl
  have e0 := X.out.at 0 rfl
  have e1 := X.out.at 1 rfl
  have e2 := X.out.at 2 rfl
  have e3 := X.out.at 3 rfl
  have e4 := X.out.at 4 rfl
  have e5 := X.out.at 5 rfl
  have ef := X.out.fz
  go_wp2_with fail
  have C0 := Lib.hid (C0.out.far (q := w.heap.size + 1 + 1) (by have := q0.out; omega) 2 (sl p0 r.W))
  have Bw := Lib.hid (Bw.out.setCell (p := ⟨w.heap.size + 1 + 1, 2, none⟩) (by simp; omega) (sl p0 r.W))
  have A := Lib.hid (A.out.far (q := w.heap.size + 1 + 1) (by omega) 2 (sl p0 r.W))
  have Y := Lib.hid (Y.out.far (q := w.heap.size + 1 + 1) (by omega) 2 (sl p0 r.W))
  have X := Lib.hid (X.out.set 2 (by simp) (sl p0 r.W))
  refine (toF_sl _ r.E _ (HE.out.below Bw.out) lE.out).mono ?_
  rintro _ w2 ⟨p1, rfl, hp, C1, hb⟩
  have q1 : Hid (p0 < p1) := Lib.hid (Nat.lt_of_lt_of_le C0.out.lt hp)
  have A := Lib.hid (A.out.kept hb)
  have X := Lib.hid (X.out.kept hb)
  have Y := Lib.hid (Y.out.kept hb)
  have C0 := Lib.hid (C0.out.kept hb)
  have Bw := Lib.hid (below_step Bw.out hb)
  have C1 := Lib.hid C1
  clear hb hp
  clear c0 c1 c2 c3 c4 c5 e0 e1 e2 e3 e4 e5 ef
  have c0 := A.out.at 0 rfl
  have c1 := A.out.at 1 rfl
  have c2 := A.out.at 2 rfl
  have c3 := A.out.at 3 rfl
  have c4 := A.out.at 4 rfl
  have c5 := A.out.at 5 rfl
  have e0 := X.out.at 0 rfl
  have e1 := X.out.at 1 rfl
  have e2 := X.out.at 2 rfl
  have e3 := X.out.at 3 rfl
  have e4 := X.out.at 4 rfl
  have e5 := X.out.at 5 rfl
  have ef := X.out.fz
  go_wp2_with fail
  have C0 := Lib.hid (C0.out.far (q := w.heap.size + 1 + 1) (by have := q0.out; have := q1.out; omega) 3 (sl p1 r.E))
  have C1 := Lib.hid (C1.out.far (q := w.heap.size + 1 + 1) (by have := q0.out; have := q1.out; omega) 3 (sl p1 r.E))
  have Bw := Lib.hid (Bw.out.setCell (p := ⟨w.heap.size + 1 + 1, 3, none⟩) (by simp; omega) (sl p1 r.E))
  have A := Lib.hid (A.out.far (q := w.heap.size + 1 + 1) (by omega) 3 (sl p1 r.E))
  have Y := Lib.hid (Y.out.far (q := w.heap.size + 1 + 1) (by omega) 3 (sl p1 r.E))
  have X := Lib.hid (X.out.set 3 (by simp) (sl p1 r.E))
  refine (toF_sl _ r.G _ (HG.out.below Bw.out) lG.out).mono ?_
  rintro _ w3 ⟨p2, rfl, hp, C2, hb⟩
  have q2 : Hid (p1 < p2) := Lib.hid (Nat.lt_of_lt_of_le C1.out.lt hp)
  have A := Lib.hid (A.out.kept hb)
  have X := Lib.hid (X.out.kept hb)
  have Y := Lib.hid (Y.out.kept hb)
  have C0 := Lib.hid (C0.out.kept hb)
  have C1 := Lib.hid (C1.out.kept hb)
  have Bw := Lib.hid (below_step Bw.out hb)
  have C2 := Lib.hid C2
  clear hb hp
  clear c0 c1 c2 c3 c4 c5 e0 e1 e2 e3 e4 e5 ef
  have c0 := A.out.at 0 rfl
  have c1 := A.out.at 1 rfl
  have c2 := A.out.at 2 rfl
  have c3 := A.out.at 3 rfl
  have c4 := A.out.at 4 rfl
  have c5 := A.out.at 5 rfl
  have e0 := X.out.at 0 rfl
  have e1 := X.out.at 1 rfl
  have e2 := X.out.at 2 rfl
  have e3 := X.out.at 3 rfl
  have e4 := X.out.at 4 rfl
  have e5 := X.out.at 5 rfl
  have ef := X.out.fz
  go_wp2_with fail
  have C0 := Lib.hid (C0.out.far (q := w.heap.size + 1 + 1) (by have := q0.out; have := q1.out; have := q2.out; omega) 4 (sl p2 r.G))
  have C1 := Lib.hid (C1.out.far (q := w.heap.size + 1 + 1) (by have := q0.out; have := q1.out; have := q2.out; omega) 4 (sl p2 r.G))
  have C2 := Lib.hid (C2.out.far (q := w.heap.size + 1 + 1) (by have := q0.out; have := q1.out; have := q2.out; omega) 4 (sl p2 r.G))
  have Bw := Lib.hid (Bw.out.setCell (p := ⟨w.heap.size + 1 + 1, 4, none⟩) (by simp; omega) (sl p2 r.G))
  have A := Lib.hid (A.out.far (q := w.heap.size + 1 + 1) (by omega) 4 (sl p2 r.G))
  have Y := Lib.hid (Y.out.far (q := w.heap.size + 1 + 1) (by omega) 4 (sl p2 r.G))
  have X := Lib.hid (X.out.set 4 (by simp) (sl p2 r.G))
  refine (toB_sl _ r.H _ (HH.out.below Bw.out) lH.out).mono ?_
  rintro _ w4 ⟨p3, rfl, hp, C3, hb⟩
  have q3 : Hid (p2 < p3) := Lib.hid (Nat.lt_of_lt_of_le C2.out.lt hp)
  have A := Lib.hid (A.out.kept hb)
  have X := Lib.hid (X.out.kept hb)
  have Y := Lib.hid (Y.out.kept hb)
  have C0 := Lib.hid (C0.out.kept hb)
  have C1 := Lib.hid (C1.out.kept hb)
  have C2 := Lib.hid (C2.out.kept hb)
  have Bw := Lib.hid (below_step Bw.out hb)
  have C3 := Lib.hid C3
  clear hb hp
  clear c0 c1 c2 c3 c4 c5 e0 e1 e2 e3 e4 e5 ef
  have c0 := A.out.at 0 rfl
  have c1 := A.out.at 1 rfl
  have c2 := A.out.at 2 rfl
  have c3 := A.out.at 3 rfl
  have c4 := A.out.at 4 rfl
  have c5 := A.out.at 5 rfl
  have e0 := X.out.at 0 rfl
  have e1 := X.out.at 1 rfl
  have e2 := X.out.at 2 rfl
  have e3 := X.out.at 3 rfl
  have e4 := X.out.at 4 rfl
  have e5 := X.out.at 5 rfl
  have ef := X.out.fz
  have g0 := Y.out.at 0 rfl
  have g1 := Y.out.at 1 rfl
  have g2 := Y.out.at 2 rfl
  have g3 := Y.out.at 3 rfl
  have g4 := Y.out.at 4 rfl
  have g5 := Y.out.at 5 rfl
  have gf := Y.out.fz
  go_wp2
  have q0 := q0.out
  have q1 := q1.out
  have q2 := q2.out
  have q3 := q3.out
  refine bodyPost_ret (v := .agg #[.int .i64 r.X, .int .i64 r.Y, sl p0 r.W, sl p1 r.E, sl p2 r.G, slb p3 r.H]) ?_ rfl ?_
  · rw [results_cell1 rfl]
    go_simp
  · refine ⟨p0, p1, p2, p3, rfl, by omega, ⟨?_, ?_, ?_, ?_, by omega, by omega, by omega⟩, ?_⟩
    · iterate 7 (refine Cells.far ?_ (by omega) _ _)
      exact C0.out
    · iterate 7 (refine Cells.far ?_ (by omega) _ _)
      exact C1.out
    · iterate 7 (refine Cells.far ?_ (by omega) _ _)
      exact C2.out
    · iterate 7 (refine Cells.far ?_ (by omega) _ _)
      exact C3.out
    · iterate 7 (refine Below.setCell ?_ (by first | (simp; done) | (simp; omega)) _)
      exact Bw.out

/-- two slices of bools that are the same -/
theorem eqB_empty (a a' : Option Addr) (c c' : Nat) (w : World) : Calls Try.prog 39 #[.slice a 0 c, .slice a' 0 c'] w (Yes w) := by
  go_enter Try.func39, Try.ntmps39
  go_wp2
  go_loop [5] (fun i => i = .int .i64 0) (fun _ => 0)
  case atStart => rfl
  case round =>
    obtain rfl := hrel
    go_wp2
    go_ret
    exact Yes.same
set_option maxHeartbeats 800000 in
theorem eqB_rows (zs : List Bool) (b off cap b' off' cap' : Nat) (w : World) (n : Nat) (hm : n ≤ maxLen) (hc : ∀ i, i < n → w.cell? ⟨b, off + i, none⟩ = some (.bool (zs.getD i false))) (hc' : ∀ i, i < n → w.cell? ⟨b', off' + i, none⟩ = some (.bool (zs.getD i false))) :
    Calls Try.prog 39 #[.slice (some ⟨b, off, none⟩) n cap, .slice (some ⟨b', off', none⟩) n cap'] w (Yes w) := by
  have HM : Hid (n ≤ 9223372036854775807) := Lib.hid hm
  clear hm
  go_enter Try.func39, Try.ntmps39
  go_wp2
  go_loopw [5] (fun i wr => ∃ k q : Nat, k ≤ n ∧ i = .int .i64 k ∧ wr = w.drewN q) (fun i _ => n - (intOf i).toNat)
  case atStart => exact ⟨0, 0, Nat.zero_le _, rfl, rfl⟩
  case round =>
    obtain ⟨k, q, hk, rfl, rfl⟩ := hrel
    by_cases hlt : k < n
    · have h1 := hc k hlt
      have h2 := hc' k hlt
      have hM := HM.out
      have hi : (0 : Int) ≤ (k : Int) := by omega
      have hi' : (k : Int) < (n : Int) := by omega
      generalize zs.getD k false = y at *
      clear hc hc'
      go_wp2
      refine wp_region_loose (fun _ _ _ => True) (by kernel_rfl) (by kernel_rfl) ?_
      repeat (first | (refine wpLoose_farith rfl _ _ _ _ _ rfl rfl _ _ _ rfl rfl ?_; intro _ _) | (refine wpLoose_valK rfl ?_ (fun w1 hw1 => ?_) (fun K hK => ?_); rotate_left; (focus (obtain ⟨nq, rfl⟩ := hw1; go_simp; first | done | rfl)); go_simp; refine hK _ ?_; clear hK K))
      (refine wpLoose_nil ?_; rintro _ ⟨nq, rfl⟩)
      go_wp2
      go_roundw
      case rel => exact ⟨k + 1, _, by omega, by go_num, rfl⟩
      case measure => simp [intOf]; omega
    · clear hc hc'
      go_wp2
      go_ret
      exact Yes.drewN
theorem BRow.empty {w : World} {v : Value} (h : BRow w v []) : ∃ a c, v = .slice a 0 c := by
  rcases h with ⟨h, _⟩ | ⟨b, off, cap, rfl, _⟩
  · exact h
  · exact ⟨_, _, rfl⟩
theorem eqB_any (v v' : Value) (zs : List Bool) (w : World) (h : BRow w v zs) (h' : BRow w v' zs) :
    Calls Try.prog 39 #[v, v'] w (Yes w) := by
  by_cases h0 : zs.length = 0
  · obtain rfl : zs = [] := List.length_eq_zero_iff.1 h0
    obtain ⟨a, c, rfl⟩ := h.empty
    obtain ⟨a', c', rfl⟩ := h'.empty
    exact eqB_empty a a' c c' w
  · rcases h with ⟨_, rfl⟩ | ⟨b, off, cap, rfl, hm, hc⟩
    · exact absurd rfl h0
    · rcases h' with ⟨_, rfl⟩ | ⟨b', off', cap', rfl, hm', hc'⟩
      · exact absurd rfl h0
      · exact eqB_rows zs b off cap b' off' cap' w zs.length hm hc hc'

theorem eqPlate_any (a b c d a' b' c' d' : Value) (r : PL) (w : World) (h : PRow w a b c d r) (h' : PRow w a' b' c' d' r) :
    Calls Try.prog 12 #[.agg #[.int .i64 r.X, .int .i64 r.Y, a, b, c, d], .agg #[.int .i64 r.X, .int .i64 r.Y, a', b', c', d']] w (YesB w) := by
  have R := Lib.hid (fun w1 (hb : Below w.heap.size w w1) => h.below hb)
  have R' := Lib.hid (fun w1 (hb : Below w.heap.size w w1) => h'.below hb)
  clear h h'
  go_enter Try.func12, Try.ntmps12
  go_wp2_with fail
  refine (eqF_any a a' _ _ _ (R.out _ (by first | exact below_al2 _ _ _ | exact below_drewN (below_al2 _ _ _) _)).W (R'.out _ (by first | exact below_al2 _ _ _ | exact below_drewN (below_al2 _ _ _) _)).W (.refl _)).mono ?_
  rintro _ _ ⟨rfl, n0, rfl⟩
  go_wp2_with fail
  refine (eqF_any b b' _ _ _ (R.out _ (by first | exact below_al2 _ _ _ | exact below_drewN (below_al2 _ _ _) _)).E (R'.out _ (by first | exact below_al2 _ _ _ | exact below_drewN (below_al2 _ _ _) _)).E (.refl _)).mono ?_
  rintro _ _ ⟨rfl, n1, rfl⟩
  go_wp2_with fail
  refine (eqF_any c c' _ _ _ (R.out _ (by first | exact below_al2 _ _ _ | exact below_drewN (below_al2 _ _ _) _)).G (R'.out _ (by first | exact below_al2 _ _ _ | exact below_drewN (below_al2 _ _ _) _)).G (.refl _)).mono ?_
  rintro _ _ ⟨rfl, n2, rfl⟩
  go_wp2_with fail
  refine (eqB_any d d' _ _ (R.out _ (by first | exact below_al2 _ _ _ | exact below_drewN (below_al2 _ _ _) _)).H (R'.out _ (by first | exact below_al2 _ _ _ | exact below_drewN (below_al2 _ _ _) _)).H).mono ?_
  rintro _ _ ⟨rfl, n3, rfl⟩
  go_wp2
  go_ret
  exact ⟨rfl, (by first | exact below_al2 _ _ _ | exact below_drewN (below_al2 _ _ _) _)⟩

theorem szPlate_fit (a b c d : Value) (r : PL) (left : Nat) (w : World) (h : PRow w a b c d r) (hl : r.size ≤ left) (hm : left ≤ 1048576) :
    Calls Try.prog 15 #[.agg #[.int .i64 r.X, .int .i64 r.Y, a, b, c, d], .int .i64 left] w fun e w' => e = .returned (.int .i64 ((left - r.size : Nat) : Int)) ∧ Below w.heap.size w w' := by
  obtain ⟨a1, a2, rfl⟩ := h.W.shape
  obtain ⟨b1, b2, rfl⟩ := h.E.shape
  obtain ⟨c1, c2, rfl⟩ := h.G.shape
  obtain ⟨d1, d2, rfl⟩ := h.H.shape
  clear h
  have e : Hid (left - r.W.length - r.E.length - r.G.length - r.H.length = left - r.size) := Lib.hid (by unfold PL.size; omega)
  unfold PL.size at hl
  have L0 : Hid (r.W.length ≤ left) := Lib.hid (by omega)
  have L1 : Hid (r.E.length ≤ left - r.W.length) := Lib.hid (by omega)
  have L2 : Hid (r.G.length ≤ left - r.W.length - r.E.length) := Lib.hid (by omega)
  have L3 : Hid (r.H.length ≤ left - r.W.length - r.E.length - r.G.length) := Lib.hid (by omega)
  have M := Lib.hid hm
  clear hl hm
  go_enter Try.func15, Try.ntmps15
  go_wp2_with fail
  refine (sz32_fit _ _ _ (left) _ L0.out (by have := M.out; omega)).mono ?_
  rintro _ _ ⟨rfl, rfl⟩
  go_wp2_with fail
  refine (sz32_fit _ _ _ (left - r.W.length) _ L1.out (by have := M.out; omega)).mono ?_
  rintro _ _ ⟨rfl, rfl⟩
  go_wp2_with fail
  refine (sz32_fit _ _ _ (left - r.W.length - r.E.length) _ L2.out (by have := M.out; omega)).mono ?_
  rintro _ _ ⟨rfl, rfl⟩
  go_wp2_with fail
  refine (szB_fit _ _ _ (left - r.W.length - r.E.length - r.G.length) _ L3.out (by have := M.out; omega)).mono ?_
  rintro _ _ ⟨rfl, rfl⟩
  go_wp2
  go_ret
  exact ⟨by rw [← e.out]; rfl, below_al1 _ _⟩

theorem szPlate_over (a b c d : Value) (r : PL) (left : Nat) (w : World) (h : PRow w a b c d r) (hl : left < r.size) (hm : left ≤ 1048576) :
    Calls Try.prog 15 #[.agg #[.int .i64 r.X, .int .i64 r.Y, a, b, c, d], .int .i64 left] w fun e w' => e = .returned (.int .i64 (-1)) ∧ Below w.heap.size w w' := by
  have N0 := Lib.hid h.W.len
  have N1 := Lib.hid h.E.len
  have N2 := Lib.hid h.G.len
  have N3 := Lib.hid h.H.len
  obtain ⟨a1, a2, rfl⟩ := h.W.shape
  obtain ⟨b1, b2, rfl⟩ := h.E.shape
  obtain ⟨c1, c2, rfl⟩ := h.G.shape
  obtain ⟨d1, d2, rfl⟩ := h.H.shape
  clear h
  unfold PL.size at hl
  have M := Lib.hid hm
  by_cases g0 : r.W.length ≤ left
  · by_cases g1 : r.E.length ≤ left - r.W.length
    · by_cases g2 : r.G.length ≤ left - r.W.length - r.E.length
      · skip
        have L0 : Hid (r.W.length ≤ left) := Lib.hid g0
        have L1 : Hid (r.E.length ≤ left - r.W.length) := Lib.hid g1
        have L2 : Hid (r.G.length ≤ left - r.W.length - r.E.length) := Lib.hid g2
        have L3 : Hid (left - r.W.length - r.E.length - r.G.length < r.H.length) := Lib.hid (by omega)
        clear hl hm g0 g1 g2
        go_enter Try.func15, Try.ntmps15
        go_wp2_with fail
        refine (sz32_fit _ _ _ (left) _ L0.out (by have := M.out; omega)).mono ?_
        rintro _ _ ⟨rfl, rfl⟩
        go_wp2_with fail
        refine (sz32_fit _ _ _ (left - r.W.length) _ L1.out (by have := M.out; omega)).mono ?_
        rintro _ _ ⟨rfl, rfl⟩
        go_wp2_with fail
        refine (sz32_fit _ _ _ (left - r.W.length - r.E.length) _ L2.out (by have := M.out; omega)).mono ?_
        rintro _ _ ⟨rfl, rfl⟩
        go_wp2_with fail
        refine (szB_over _ _ _ (left - r.W.length - r.E.length - r.G.length) _ L3.out N3.out (by have := M.out; omega)).mono ?_
        rintro _ _ ⟨rfl, rfl⟩
        go_wp2
        go_ret
        exact ⟨rfl, below_al1 _ _⟩
      · skip
        have L0 : Hid (r.W.length ≤ left) := Lib.hid g0
        have L1 : Hid (r.E.length ≤ left - r.W.length) := Lib.hid g1
        have L2 : Hid (left - r.W.length - r.E.length < r.G.length) := Lib.hid (by omega)
        clear hl hm g0 g1 g2
        go_enter Try.func15, Try.ntmps15
        go_wp2_with fail
        refine (sz32_fit _ _ _ (left) _ L0.out (by have := M.out; omega)).mono ?_
        rintro _ _ ⟨rfl, rfl⟩
        go_wp2_with fail
        refine (sz32_fit _ _ _ (left - r.W.length) _ L1.out (by have := M.out; omega)).mono ?_
        rintro _ _ ⟨rfl, rfl⟩
        go_wp2_with fail
        refine (sz32_over _ _ _ (left - r.W.length - r.E.length) _ L2.out N2.out (by have := M.out; omega)).mono ?_
        rintro _ _ ⟨rfl, rfl⟩
        go_wp2
        go_ret
        exact ⟨rfl, below_al1 _ _⟩
    · skip
      have L0 : Hid (r.W.length ≤ left) := Lib.hid g0
      have L1 : Hid (left - r.W.length < r.E.length) := Lib.hid (by omega)
      clear hl hm g0 g1
      go_enter Try.func15, Try.ntmps15
      go_wp2_with fail
      refine (sz32_fit _ _ _ (left) _ L0.out (by have := M.out; omega)).mono ?_
      rintro _ _ ⟨rfl, rfl⟩
      go_wp2_with fail
      refine (sz32_over _ _ _ (left - r.W.length) _ L1.out N1.out (by have := M.out; omega)).mono ?_
      rintro _ _ ⟨rfl, rfl⟩
      go_wp2
      go_ret
      exact ⟨rfl, below_al1 _ _⟩
  · skip
    have L0 : Hid (left < r.W.length) := Lib.hid (by omega)
    clear hl hm g0
    go_enter Try.func15, Try.ntmps15
    go_wp2_with fail
    refine (sz32_over _ _ _ (left) _ L0.out N0.out (by have := M.out; omega)).mono ?_
    rintro _ _ ⟨rfl, rfl⟩
    go_wp2
    go_ret
    exact ⟨rfl, below_al1 _ _⟩

end Go.Proofs.Ythfkmcpajookaaa

/- Arguments that are structs, opened: a cup (two integers), a stuff (six 32-bit numbers). -/
namespace Go.Proofs.Ythfkmcpajookaaa
open Go.RowKit Go.ChangeShapes Go.WideShapes Go.Joins Go.Deep

/-- a stuff's six numbers -/
structure SF where
  so : Nat
  fl : Nat
  es : Nat
  ef : Nat
  pt : Nat
  la : Nat
def SF.wf (s : SF) : Prop := (Lit.float .f32 s.so).wf = true ∧ (Lit.float .f32 s.fl).wf = true ∧ (Lit.float .f32 s.es).wf = true ∧ (Lit.float .f32 s.ef).wf = true ∧ (Lit.float .f32 s.pt).wf = true ∧ (Lit.float .f32 s.la).wf = true

section
variable {H : Type} {enc : TypeId × Value → H} {P : Program} {w : World} {base : Nat} {spare : Nat → Bool} {held : Bool}

theorem tr_f32 {t : TypeId} {n : Nat} {v : Value} {y : DataW H × List MemPlace} (he : P.underlying t = some (.float .f32)) (h : DataW.trod enc P w base spare held n t [v] = some y) :
    ∃ b, v = .float .f32 b ∧ (Lit.float .f32 b).wf = true := by
  cases n with
  | zero => simp [DataW.trod] at h
  | succ n =>
    cases v <;> simp [DataW.trod, he] at h
    rename_i k b
    obtain ⟨⟨rfl, hw⟩, _⟩ := h
    exact ⟨b, rfl, hw⟩

theorem tr_i64 {t : TypeId} {n : Nat} {v : Value} {y : DataW H × List MemPlace} (he : P.underlying t = some (.int .i64)) (h : DataW.trod enc P w base spare held n t [v] = some y) :
    ∃ b, v = .int .i64 b ∧ (Lit.int .i64 b).wf = true := by
  cases n with
  | zero => simp [DataW.trod] at h
  | succ n =>
    cases v <;> simp [DataW.trod, he] at h
    rename_i k b
    obtain ⟨⟨rfl, hw⟩, _⟩ := h
    exact ⟨b, rfl, hw⟩

theorem open_cup {r : Reach} {b0 : Nat} {t : TypeId} {f0 f1 : Field} {v : Value} {d : DataW H} {p : List MemPlace} (hs : P.underlying t = some (.struct #[f0, f1])) (hone : oneCellFields P #[f0, f1] = true) (hC : P.cellsOf t = 2)
    (e0 : P.underlying f0.type = some (.int .i64)) (e1 : P.underlying f1.type = some (.int .i64))
    (hv : Value.okWide P w r b0 t v) (h : DataW.Trod enc P w base spare held t v d p) : ∃ m k, v = .agg #[.int .i64 m, .int .i64 k] ∧ (Lit.int .i64 m).wf = true ∧ (Lit.int .i64 k).wf = true := by
  obtain ⟨c0, c1, y0, y1, m, rfl, rfl, rfl, h0, h1⟩ := open_agg2 hs hone hC hv h
  obtain ⟨k, rfl, hk⟩ := tr_i64 e0 h0
  obtain ⟨x, rfl, hx⟩ := tr_i64 e1 h1
  exact ⟨k, x, rfl, hk, hx⟩

def SF.vs (s : SF) : List Value := [.float .f32 s.so, .float .f32 s.fl, .float .f32 s.es, .float .f32 s.ef, .float .f32 s.pt, .float .f32 s.la]

theorem tr_stuff {t : TypeId} {f0 f1 f2 f3 f4 f5 : Field} {n : Nat} {cs : List Value} {y : DataW H × List MemPlace} (hs : P.underlying t = some (.struct #[f0, f1, f2, f3, f4, f5])) (hone : oneCellFields P #[f0, f1, f2, f3, f4, f5] = true) (hC : P.cellsOf t = 6)
    (e0 : P.underlying f0.type = some (.float .f32)) (e1 : P.underlying f1.type = some (.float .f32)) (e2 : P.underlying f2.type = some (.float .f32)) (e3 : P.underlying f3.type = some (.float .f32)) (e4 : P.underlying f4.type = some (.float .f32)) (e5 : P.underlying f5.type = some (.float .f32))
    (h : DataW.trod enc P w base spare held n t cs = some y) : ∃ s : SF, cs = s.vs ∧ s.wf := by
  obtain ⟨xs, m, _, _, hl, hx, hg⟩ := DataW.trod_struct hs h
  have hx' : xs.length = 6 := hx
  match cs, hl.trans hC, xs, hx' with
  | [c0, c1, c2, c3, c4, c5], _, [y0, y1, y2, y3, y4, y5], _ =>
    obtain ⟨o0, k0⟩ := hone_of hone 0 f0 rfl
    obtain ⟨o1, k1⟩ := hone_of hone 1 f1 rfl
    obtain ⟨o2, k2⟩ := hone_of hone 2 f2 rfl
    obtain ⟨o3, k3⟩ := hone_of hone 3 f3 rfl
    obtain ⟨o4, k4⟩ := hone_of hone 4 f4 rfl
    obtain ⟨o5, k5⟩ := hone_of hone 5 f5 rfl
    have g0 := hg 0 f0 rfl
    have g1 := hg 1 f1 rfl
    have g2 := hg 2 f2 rfl
    have g3 := hg 3 f3 rfl
    have g4 := hg 4 f4 rfl
    have g5 := hg 5 f5 rfl
    rw [o0, k0] at g0
    rw [o1, k1] at g1
    rw [o2, k2] at g2
    rw [o3, k3] at g3
    rw [o4, k4] at g4
    rw [o5, k5] at g5
    obtain ⟨b0, rfl, w0⟩ := tr_f32 e0 (show DataW.trod enc P w base spare held m f0.type [c0] = some y0 from g0)
    obtain ⟨b1, rfl, w1⟩ := tr_f32 e1 (show DataW.trod enc P w base spare held m f1.type [c1] = some y1 from g1)
    obtain ⟨b2, rfl, w2⟩ := tr_f32 e2 (show DataW.trod enc P w base spare held m f2.type [c2] = some y2 from g2)
    obtain ⟨b3, rfl, w3⟩ := tr_f32 e3 (show DataW.trod enc P w base spare held m f3.type [c3] = some y3 from g3)
    obtain ⟨b4, rfl, w4⟩ := tr_f32 e4 (show DataW.trod enc P w base spare held m f4.type [c4] = some y4 from g4)
    obtain ⟨b5, rfl, w5⟩ := tr_f32 e5 (show DataW.trod enc P w base spare held m f5.type [c5] = some y5 from g5)
    exact ⟨⟨b0, b1, b2, b3, b4, b5⟩, rfl, w0, w1, w2, w3, w4, w5⟩

theorem open_stuff {r : Reach} {b0 : Nat} {t : TypeId} {f0 f1 f2 f3 f4 f5 : Field} {v : Value} {d : DataW H} {p : List MemPlace} (hs : P.underlying t = some (.struct #[f0, f1, f2, f3, f4, f5])) (hone : oneCellFields P #[f0, f1, f2, f3, f4, f5] = true) (hC : P.cellsOf t = 6)
    (e0 : P.underlying f0.type = some (.float .f32)) (e1 : P.underlying f1.type = some (.float .f32)) (e2 : P.underlying f2.type = some (.float .f32)) (e3 : P.underlying f3.type = some (.float .f32)) (e4 : P.underlying f4.type = some (.float .f32)) (e5 : P.underlying f5.type = some (.float .f32))
    (hv : Value.okWide P w r b0 t v) (h : DataW.Trod enc P w base spare held t v d p) : ∃ s : SF, v = .agg #[.float .f32 s.so, .float .f32 s.fl, .float .f32 s.es, .float .f32 s.ef, .float .f32 s.pt, .float .f32 s.la] ∧ s.wf := by
  obtain ⟨cs, rfl, hsz⟩ := okWide_struct hs hv
  obtain ⟨l⟩ := cs
  obtain ⟨fuel, hf⟩ := h
  obtain ⟨s, hcs, hw⟩ := tr_stuff hs hone hC e0 e1 e2 e3 e4 e5 hf
  have : l = s.vs := by simpa [Value.cells] using hcs
  subst this
  exact ⟨s, rfl, hw⟩

end
end Go.Proofs.Ythfkmcpajookaaa

/- Arguments that are plates, opened: two integers, three slices of numbers, and a slice of bools. -/
namespace Go.Proofs.Ythfkmcpajookaaa
open Go.RowKit Go.ChangeShapes Go.WideShapes Go.Joins Go.Deep

/-- a plate's numbers are numbers -/
structure PWf (r : PL) : Prop where
  X : (Lit.int .i64 r.X).wf = true
  Y : (Lit.int .i64 r.Y).wf = true
  W : ∀ i, i < r.W.length → (Lit.float .f32 (r.W.getD i 0)).wf = true
  E : ∀ i, i < r.E.length → (Lit.float .f32 (r.E.getD i 0)).wf = true
  G : ∀ i, i < r.G.length → (Lit.float .f32 (r.G.getD i 0)).wf = true

section
variable {H : Type} {enc : TypeId × Value → H} {P : Program} {w : World} {base : Nat} {spare : Nat → Bool} {held : Bool}

theorem trp_f32s {t e : TypeId} {n : Nat} {v : Value} {y : DataW H × List MemPlace} (ht : P.underlying t = some (.slice e)) (he : P.underlying e = some (.float .f32)) (hc : P.cellsOf e = 1)
    (h : DataW.trod enc P w base spare held n t [v] = some y) : ∃ zs, FRow w v zs ∧ ∀ i, i < zs.length → (Lit.float .f32 (zs.getD i 0)).wf = true := by
  have hv : ∃ a len cap, v = .slice a len cap := by
    rcases Deep.open_slice1 ht hc h with ⟨hcs, _⟩ | ⟨x, l, c, m, n, V, D, Pl, hcs, _⟩
    · simp at hcs; exact ⟨_, _, _, hcs⟩
    · simp at hcs; exact ⟨_, _, _, hcs⟩
  obtain ⟨a, len, cap, rfl⟩ := hv
  obtain ⟨zs, hz, hw⟩ := open_f32s (enc := enc) (P := P) (w := w) (base := base) (spare := spare) (held := held) (d := y.1) (ps := y.2) ht he hc ⟨n, by simpa [Value.cells] using h⟩
  exact ⟨zs, hz, hw⟩

theorem trp_bools {t e : TypeId} {n : Nat} {v : Value} {y : DataW H × List MemPlace} (ht : P.underlying t = some (.slice e)) (he : P.underlying e = some .bool) (hc : P.cellsOf e = 1)
    (h : DataW.trod enc P w base spare held n t [v] = some y) : ∃ zs, BRow w v zs := by
  rcases Deep.open_slice1 ht hc h with ⟨hcs, _⟩ | ⟨x, len, cap, m, n, V, D, Pl, hcs, _, hl, hm, hmm, _, hV⟩
  · simp at hcs
    subst hcs
    exact ⟨[], .inl ⟨⟨_, _, rfl⟩, rfl⟩⟩
  · simp at hcs
    subst hcs
    have hlm : len ≤ m := by rw [hmm]; split <;> omega
    have hb : ∀ i, i < len → ∃ b, V i = .bool b := by
      intro i hi
      have h2 := (hV i (by omega)).2
      cases n with
      | zero => simp [DataW.trod] at h2
      | succ n =>
        cases hv : V i <;> simp [DataW.trod, he, hv] at h2
        exact ⟨_, rfl⟩
    obtain ⟨B, hB⟩ := Deep.choose_lt hb
    refine ⟨(List.range len).map B, ?_⟩
    by_cases h0 : len = 0
    · subst h0; exact .inl ⟨⟨_, _, rfl⟩, rfl⟩
    · obtain ⟨xb, xo, xs⟩ := x
      have hs : xs = none := by simpa [Addr.add] using World.cell?_spot (hV 0 (by omega)).1
      subst hs
      refine .inr ⟨xb, xo, cap, by simp, by simp; omega, fun i hi => ?_⟩
      have hi' : i < len := by simpa using hi
      have := (hV i (by omega)).1
      rw [hB i hi'] at this
      have ea : (⟨xb, xo, none⟩ : Addr).add i = ⟨xb, xo + i, none⟩ := by
        by_cases h : i = 0
        · subst h; simp [Addr.add]
        · simp [Addr.add, h]
      rw [ea] at this
      simpa [hi', List.getD_eq_getElem?_getD] using this

theorem open_plate {rr : Reach} {b0 : Nat} {t s e sb eb : TypeId} {f0 f1 f2 f3 f4 f5 : Field} {v : Value} {d : DataW H} {p : List MemPlace} (hs : P.underlying t = some (.struct #[f0, f1, f2, f3, f4, f5])) (hone : oneCellFields P #[f0, f1, f2, f3, f4, f5] = true) (hC : P.cellsOf t = 6)
    (e0 : P.underlying f0.type = some (.int .i64)) (e1 : P.underlying f1.type = some (.int .i64)) (e2 : f2.type = s) (e3 : f3.type = s) (e4 : f4.type = s) (e5 : f5.type = sb)
    (us : P.underlying s = some (.slice e)) (ue : P.underlying e = some (.float .f32)) (uc : P.cellsOf e = 1) (usb : P.underlying sb = some (.slice eb)) (ueb : P.underlying eb = some .bool) (ucb : P.cellsOf eb = 1)
    (hv : Value.okWide P w rr b0 t v) (h : DataW.Trod enc P w base spare held t v d p) : ∃ (r : PL) (a b c d : Value), v = .agg #[.int .i64 r.X, .int .i64 r.Y, a, b, c, d] ∧ PRow w a b c d r ∧ PWf r := by
  obtain ⟨cs, rfl, hsz⟩ := okWide_struct hs hv
  obtain ⟨l⟩ := cs
  obtain ⟨fuel, hf⟩ := h
  obtain ⟨xs, m, _, _, hl, hx, hg⟩ := DataW.trod_struct hs hf
  have hx' : xs.length = 6 := hx
  have hl' : l.length = 6 := by simpa [Value.cells] using hl.trans hC
  match l, hl', xs, hx' with
  | [c0, c1, c2, c3, c4, c5], _, [y0, y1, y2, y3, y4, y5], _ =>
    obtain ⟨o0, k0⟩ := hone_of hone 0 f0 rfl
    obtain ⟨o1, k1⟩ := hone_of hone 1 f1 rfl
    obtain ⟨o2, k2⟩ := hone_of hone 2 f2 rfl
    obtain ⟨o3, k3⟩ := hone_of hone 3 f3 rfl
    obtain ⟨o4, k4⟩ := hone_of hone 4 f4 rfl
    obtain ⟨o5, k5⟩ := hone_of hone 5 f5 rfl
    have g0 := hg 0 f0 rfl
    have g1 := hg 1 f1 rfl
    have g2 := hg 2 f2 rfl
    have g3 := hg 3 f3 rfl
    have g4 := hg 4 f4 rfl
    have g5 := hg 5 f5 rfl
    rw [o0, k0] at g0
    rw [o1, k1] at g1
    rw [o2, k2, e2] at g2
    rw [o3, k3, e3] at g3
    rw [o4, k4, e4] at g4
    rw [o5, k5, e5] at g5
    obtain ⟨b0, rfl, w0⟩ := tr_i64 e0 (show DataW.trod enc P w base spare held m f0.type [c0] = some y0 from g0)
    obtain ⟨b1, rfl, w1⟩ := tr_i64 e1 (show DataW.trod enc P w base spare held m f1.type [c1] = some y1 from g1)
    obtain ⟨z2, r2, w2⟩ := trp_f32s us ue uc (show DataW.trod enc P w base spare held m s [c2] = some y2 from g2)
    obtain ⟨z3, r3, w3⟩ := trp_f32s us ue uc (show DataW.trod enc P w base spare held m s [c3] = some y3 from g3)
    obtain ⟨z4, r4, w4⟩ := trp_f32s us ue uc (show DataW.trod enc P w base spare held m s [c4] = some y4 from g4)
    obtain ⟨z5, r5⟩ := trp_bools usb ueb ucb (show DataW.trod enc P w base spare held m sb [c5] = some y5 from g5)
    exact ⟨⟨b0, b1, z2, z3, z4, z5⟩, c2, c3, c4, c5, rfl, ⟨r2, r3, r4, r5⟩, w0, w1, w2, w3, w4⟩
end
end Go.Proofs.Ythfkmcpajookaaa

/- Whether an integer lies between two others. -/
namespace Go.Proofs.Ythfkmcpajookaaa
open Go.RowKit

/-- is a number from one to another -/
theorem in_any (x lo hi : Int) (w : World) : Calls Try.prog 32 #[.int .i64 x, .int .i64 lo, .int .i64 hi] w fun e w' => e = .returned (.bool (decide (lo ≤ x) && decide (x ≤ hi))) ∧ w = w' := by
  by_cases h : lo ≤ x
  · go_enter Try.func32, Try.ntmps32
    go_wp2
    go_ret
    exact ⟨by simp [h], rfl⟩
  · go_enter Try.func32, Try.ntmps32
    go_wp2
    go_ret
    exact ⟨by simp; intro; omega, rfl⟩
end Go.Proofs.Ythfkmcpajookaaa

/- Whether all numbers of a list are are finite. -/
namespace Go.Proofs.Ythfkmcpajookaaa
open Go.RowKit

/-- an index, or -1 -/
def Idx (b : Bool) (w : World) (e : Ending) (w' : World) : Prop := ∃ i : Int, e = .returned (.int .i64 i) ∧ decide (0 ≤ i) = b ∧ ∃ n, w' = w.drewN n
theorem any_some {f : Nat → Bool} {zs : List Nat} {k : Nat} (hk : k < zs.length) (h : f (zs.getD k 0) = true) : zs.any f = true := by
  rw [List.any_eq_true]
  refine ⟨zs.getD k 0, ?_, h⟩
  simp [List.getD_eq_getElem?_getD, hk]
theorem not_any_not (f : Nat → Bool) (zs : List Nat) : (!(zs.any (fun z => !(f z)))) = zs.all f := by
  induction zs with
  | nil => rfl
  | cons x xs ih => simp only [List.any_cons, List.all_cons, ← ih]; cases f x <;> simp
theorem any_none {f : Nat → Bool} {zs : List Nat} (h : ∀ k, k < zs.length → f (zs.getD k 0) = false) : zs.any f = false := by
  rw [List.any_eq_false]
  intro x hx
  obtain ⟨i, hi, rfl⟩ := List.mem_iff_getElem.1 hx
  have := h i hi
  simpa [List.getD_eq_getElem?_getD, hi] using this

theorem litFin_any (y q : Nat) (w : World) (hq : w.cell? ⟨q, 0, none⟩ = some (.func (.func 51) #[] #[])) :
    Calls Try.prog 88 #[.float .f32 y, .pointer (some ⟨q, 0, none⟩)] w (Bol (!(fin .f32 y)) w) := by
  go_enter Try.func88, Try.ntmps88
  go_wp2_with (go_at_call 51; refine (implFinite_any _ _).mono ?_; rintro e w' ⟨rfl, n, rfl⟩)
  go_ret
  exact ⟨rfl, _, rfl⟩

theorem idxFin_any (v : Value) (zs : List Nat) (q : Nat) (w : World) (h : FRow w v zs) (hq : w.cell? ⟨q, 0, none⟩ = some (.func (.func 51) #[] #[])) :
    Calls Try.prog 95 #[v, .func (.func 88) #[] #[.pointer (some ⟨q, 0, none⟩)]] w (Idx (zs.any (fun z => !(fin .f32 z))) w) := by
  have VS := Lib.hid (fun k (hk : k < zs.length) (h : (!(fin .f32 (zs.getD k 0))) = true) => any_some (f := fun z => !(fin .f32 z)) hk h)
  have VN := Lib.hid (fun h => any_none (f := fun z => !(fin .f32 z)) (zs := zs) h)
  have HC := Lib.hid (fun (hn : 1 ≤ zs.length) => h.cells hn)
  have HL := Lib.hid h.len
  obtain ⟨a, cap, rfl⟩ := h.shape
  clear h
  generalize hb : zs.any (fun z => !(fin .f32 z)) = b at *
  clear hb
  have HG : Hid (∀ k, zs.getD k 0 = zs.getD k 0) := Lib.hid (fun k => rfl)
  generalize hn : zs.length = n at *
  clear hn
  go_enter Try.func95, Try.ntmps95
  go_wp2
  go_loopw [5, 8] (fun _ i wr => ∃ k q : Nat, k ≤ n ∧ i = .int .i64 k ∧ Hid (∀ j, j < k → (!(fin .f32 (zs.getD j 0))) = false) ∧ wr = w.drewN q) (fun _ i _ => n - (intOf i).toNat)
  case atStart => exact ⟨0, 0, Nat.zero_le _, rfl, Lib.hid (fun j hj => absurd hj (Nat.not_lt_zero _)), rfl⟩
  case round =>
    obtain ⟨k, q, hk, rfl, hall, rfl⟩ := hrel
    by_cases hlt : k < n
    · obtain ⟨b0, o0, cap', e, hc⟩ := HC.out (by omega)
      have ea : a = some ⟨b0, o0, none⟩ := by cases e; rfl
      have z0 := hc k hlt
      have VSk := Lib.hid (VS.out k hlt)
      clear e hc
      subst ea
      have hG := HL.out
      have hi : (0 : Int) ≤ (k : Int) := by omega
      have hi' : (k : Int) < (n : Int) := by omega
      generalize hy : zs.getD k 0 = y at *
      cases B : fin .f32 y
      · have V := Lib.hid (VSk.out (by rw [B]; rfl))
        go_wp2_with (go_at_call 88; refine (litFin_any y _ _ (by simpa using hq)).mono ?_; rw [B]; rintro e w' ⟨rfl, n, rfl⟩)
        go_ret
        exact ⟨_, rfl, by rw [V.out]; simp, _, rfl⟩
      · have V := Lib.hid (show (!(fin .f32 (zs.getD k 0))) = false by rw [hy, B]; rfl)
        clear hy
        go_wp2_with (go_at_call 88; refine (litFin_any y _ _ (by simpa using hq)).mono ?_; rw [B]; rintro e w' ⟨rfl, n, rfl⟩)
        go_roundw
        case rel => exact ⟨k + 1, _, by omega, by go_num, Lib.hid (fun j hj => by rcases Nat.lt_succ_iff_lt_or_eq.1 hj with h | h; exact hall.out j h; subst h; exact V.out), rfl⟩
        case measure => simp [intOf]; omega
    · have e := Lib.hid (show k = n by omega)
      go_wp2
      go_ret
      have := e.out
      subst this
      exact ⟨_, rfl, by rw [VN.out hall.out]; rfl, _, rfl⟩

theorem allFin_any (v : Value) (zs : List Nat) (w : World) (h : FRow w v zs) : Calls Try.prog 77 #[v, .func (.func 51) #[] #[]] w (BolB (zs.all (fin .f32)) w) := by
  have H := Lib.hid (h.below (below_al1 w (.cells [Value.func (.func 51) #[] #[]].toArray 59)))
  have e := Lib.hid (show (!(zs.any (fun z => !(fin .f32 z)))) = zs.all (fin .f32) from not_any_not _ _)
  clear h
  go_enter Try.func77, Try.ntmps77
  go_wp2_with (first | (go_at_call 95; refine (idxFin_any _ zs _ _ H.out (by simp)).mono ?_; rintro e w' ⟨i, rfl, hi, n, rfl⟩) | go_in)
  go_ret
  exact ⟨ret_b e.out.symm, below_drewN (below_al1 _ _) _⟩

end Go.Proofs.Ythfkmcpajookaaa

/- Whether all numbers of a list are finite: the specification's. -/
namespace Go.Proofs.Ythfkmcpajookaaa
open Go.RowKit
set_option linter.unusedVariables false

theorem specFinL_any (v : Value) (zs : List Nat) (w : World) (h : FRow w v zs) : Calls Try.prog 74 #[v] w (Bol (zs.all (fin .f32)) w) := by
  have VS := Lib.hid (fun k (hk : k < zs.length) (h : (!(fin .f32 (zs.getD k 0))) = true) => any_some (f := fun z => !(fin .f32 z)) hk h)
  have VN := Lib.hid (fun h => any_none (f := fun z => !(fin .f32 z)) (zs := zs) h)
  have EQ := Lib.hid (not_any_not (fin .f32) zs)
  have HC := Lib.hid (fun (hn : 1 ≤ zs.length) => h.cells hn)
  have HL := Lib.hid h.len
  obtain ⟨a, cap, rfl⟩ := h.shape
  clear h
  generalize zs.any (fun z => !(fin .f32 z)) = b at *
  generalize zs.all (fin .f32) = B at *
  generalize hn : zs.length = n at *
  clear hn
  go_enter Try.func74, Try.ntmps74
  go_wp2
  go_loopw [3] (fun i wr => ∃ k q : Nat, k ≤ n ∧ i = .int .i64 k ∧ Hid (∀ j, j < k → (!(fin .f32 (zs.getD j 0))) = false) ∧ wr = w.drewN q) (fun i _ => n - (intOf i).toNat)
  case atStart => exact ⟨0, 0, Nat.zero_le _, rfl, Lib.hid (fun j hj => absurd hj (Nat.not_lt_zero _)), rfl⟩
  case round =>
    obtain ⟨k, q, hk, rfl, hall, rfl⟩ := hrel
    by_cases hlt : k < n
    · obtain ⟨b0, o0, cap', e, hc⟩ := HC.out (by omega)
      have ea : a = some ⟨b0, o0, none⟩ := by cases e; rfl
      have z0 := hc k hlt
      have VSk := Lib.hid (VS.out k hlt)
      clear e hc
      subst ea
      have hG := HL.out
      have hi : (0 : Int) ≤ (k : Int) := by omega
      have hi' : (k : Int) < (n : Int) := by omega
      generalize hy : zs.getD k 0 = y at *
      cases S : fin .f32 y
      · have V := Lib.hid (VSk.out (by rw [S]; rfl))
        go_wp2_with (go_at_call 47; refine (specFinite_any y _).mono ?_; rw [S]; rintro e w' ⟨rfl, m, rfl⟩)
        go_ret
        exact ⟨ret_b (by rw [← EQ.out, V.out]; rfl), _, rfl⟩
      · have V := Lib.hid (show (!(fin .f32 (zs.getD k 0))) = false by rw [hy, S]; rfl)
        clear hy
        go_wp2_with (go_at_call 47; refine (specFinite_any y _).mono ?_; rw [S]; rintro e w' ⟨rfl, m, rfl⟩)
        go_roundw
        case rel => exact ⟨k + 1, _, by omega, by go_num, Lib.hid (fun j hj => by rcases Nat.lt_succ_iff_lt_or_eq.1 hj with h | h; exact hall.out j h; subst h; exact V.out), rfl⟩
        case measure => simp [intOf]; omega
    · have e := Lib.hid (show k = n by omega)
      go_wp2
      go_ret
      have := e.out
      subst this
      exact ⟨ret_b (by rw [← EQ.out, VN.out hall.out]; rfl), _, rfl⟩

end Go.Proofs.Ythfkmcpajookaaa

/- Whether all numbers of a list are greater than 0. -/
namespace Go.Proofs.Ythfkmcpajookaaa
open Go.RowKit

theorem litPos_any (y q : Nat) (w : World) (hq : w.cell? ⟨q, 0, none⟩ = some (.func (.func 56) #[] #[])) :
    Calls Try.prog 88 #[.float .f32 y, .pointer (some ⟨q, 0, none⟩)] w (Bol (!(pos y)) w) := by
  go_enter Try.func88, Try.ntmps88
  go_wp2_with (go_at_call 56; refine (implPos_any _ _).mono ?_; rintro e w' ⟨rfl, n, rfl⟩)
  go_ret
  exact ⟨rfl, _, rfl⟩

theorem idxPos_any (v : Value) (zs : List Nat) (q : Nat) (w : World) (h : FRow w v zs) (hq : w.cell? ⟨q, 0, none⟩ = some (.func (.func 56) #[] #[])) :
    Calls Try.prog 95 #[v, .func (.func 88) #[] #[.pointer (some ⟨q, 0, none⟩)]] w (Idx (zs.any (fun z => !(pos z))) w) := by
  have VS := Lib.hid (fun k (hk : k < zs.length) (h : (!(pos (zs.getD k 0))) = true) => any_some (f := fun z => !(pos z)) hk h)
  have VN := Lib.hid (fun h => any_none (f := fun z => !(pos z)) (zs := zs) h)
  have HC := Lib.hid (fun (hn : 1 ≤ zs.length) => h.cells hn)
  have HL := Lib.hid h.len
  obtain ⟨a, cap, rfl⟩ := h.shape
  clear h
  generalize hb : zs.any (fun z => !(pos z)) = b at *
  clear hb
  have HG : Hid (∀ k, zs.getD k 0 = zs.getD k 0) := Lib.hid (fun k => rfl)
  generalize hn : zs.length = n at *
  clear hn
  go_enter Try.func95, Try.ntmps95
  go_wp2
  go_loopw [5, 8] (fun _ i wr => ∃ k q : Nat, k ≤ n ∧ i = .int .i64 k ∧ Hid (∀ j, j < k → (!(pos (zs.getD j 0))) = false) ∧ wr = w.drewN q) (fun _ i _ => n - (intOf i).toNat)
  case atStart => exact ⟨0, 0, Nat.zero_le _, rfl, Lib.hid (fun j hj => absurd hj (Nat.not_lt_zero _)), rfl⟩
  case round =>
    obtain ⟨k, q, hk, rfl, hall, rfl⟩ := hrel
    by_cases hlt : k < n
    · obtain ⟨b0, o0, cap', e, hc⟩ := HC.out (by omega)
      have ea : a = some ⟨b0, o0, none⟩ := by cases e; rfl
      have z0 := hc k hlt
      have VSk := Lib.hid (VS.out k hlt)
      clear e hc
      subst ea
      have hG := HL.out
      have hi : (0 : Int) ≤ (k : Int) := by omega
      have hi' : (k : Int) < (n : Int) := by omega
      generalize hy : zs.getD k 0 = y at *
      cases B : pos y
      · have V := Lib.hid (VSk.out (by rw [B]; rfl))
        go_wp2_with (go_at_call 88; refine (litPos_any y _ _ (by simpa using hq)).mono ?_; rw [B]; rintro e w' ⟨rfl, n, rfl⟩)
        go_ret
        exact ⟨_, rfl, by rw [V.out]; simp, _, rfl⟩
      · have V := Lib.hid (show (!(pos (zs.getD k 0))) = false by rw [hy, B]; rfl)
        clear hy
        go_wp2_with (go_at_call 88; refine (litPos_any y _ _ (by simpa using hq)).mono ?_; rw [B]; rintro e w' ⟨rfl, n, rfl⟩)
        go_roundw
        case rel => exact ⟨k + 1, _, by omega, by go_num, Lib.hid (fun j hj => by rcases Nat.lt_succ_iff_lt_or_eq.1 hj with h | h; exact hall.out j h; subst h; exact V.out), rfl⟩
        case measure => simp [intOf]; omega
    · have e := Lib.hid (show k = n by omega)
      go_wp2
      go_ret
      have := e.out
      subst this
      exact ⟨_, rfl, by rw [VN.out hall.out]; rfl, _, rfl⟩

theorem allPos_any (v : Value) (zs : List Nat) (w : World) (h : FRow w v zs) : Calls Try.prog 77 #[v, .func (.func 56) #[] #[]] w (BolB (zs.all (pos)) w) := by
  have H := Lib.hid (h.below (below_al1 w (.cells [Value.func (.func 56) #[] #[]].toArray 59)))
  have e := Lib.hid (show (!(zs.any (fun z => !(pos z)))) = zs.all (pos) from not_any_not _ _)
  clear h
  go_enter Try.func77, Try.ntmps77
  go_wp2_with (first | (go_at_call 95; refine (idxPos_any _ zs _ _ H.out (by simp)).mono ?_; rintro e w' ⟨i, rfl, hi, n, rfl⟩) | go_in)
  go_ret
  exact ⟨ret_b e.out.symm, below_drewN (below_al1 _ _) _⟩
end Go.Proofs.Ythfkmcpajookaaa

/- Whether a plate is valid: both sides. -/
namespace Go.Proofs.Ythfkmcpajookaaa
open Go.RowKit
set_option linter.unusedVariables false

theorem inb_any (x lo hi : Int) (b : Bool) (h : (decide (lo ≤ x) && decide (x ≤ hi)) = b) (w : World) : Calls Try.prog 32 #[.int .i64 x, .int .i64 lo, .int .i64 hi] w (Bol b w) := by
  refine (in_any x lo hi w).mono ?_
  rintro e w' ⟨he, hw⟩
  exact ⟨by rw [he, h], 0, hw.symm⟩
def exX (r : PL) : Bool := decide (1 ≤ r.X) && decide (r.X ≤ 12)
def exY (r : PL) : Bool := decide (1 ≤ r.Y) && decide (r.Y ≤ 12)
def lenP (r : PL) : Bool := decide ((r.W.length : Int) = r.X * r.Y) && decide ((r.E.length : Int) = r.X * r.Y) && decide ((r.G.length : Int) = r.X * r.Y) && decide ((r.H.length : Int) = r.X * r.Y)
def hPl (r : PL) : Bool := exX r && exY r && lenP r
def vPl (r : PL) : Bool := hPl r && r.W.all (fin .f32) && r.E.all pos && r.G.all (fin .f32)
/-- the form of a plate: its sides and its lists -/
structure PlN (r : PL) (n : Nat) : Prop where
  X1 : 1 ≤ r.X
  X2 : r.X ≤ 12
  Y1 : 1 ≤ r.Y
  Y2 : r.Y ≤ 12
  xy : r.X * r.Y = (n : Int)
  W : r.W.length = n
  E : r.E.length = n
  G : r.G.length = n
  H : r.H.length = n
  p : 1 ≤ n
  q : n ≤ 144
theorem ext_n {x y : Int} (a : 1 ≤ x) (b : x ≤ 12) (c : 1 ≤ y) (d : y ≤ 12) : ∃ n : Nat, x * y = (n : Int) ∧ 1 ≤ n ∧ n ≤ 144 := by
  have h1 : x * y ≤ 12 * 12 := Int.mul_le_mul b d (by omega) (by omega)
  have h2 : 1 * 1 ≤ x * y := Int.mul_le_mul a c (by omega) (by omega)
  exact ⟨(x * y).toNat, by omega, by omega, by omega⟩
theorem PlN.of {r : PL} (h : hPl r = true) : PlN r r.W.length := by
  unfold hPl exX exY lenP at h
  simp only [Bool.and_eq_true, decide_eq_true_eq] at h
  obtain ⟨⟨⟨a, b⟩, c, d⟩, ⟨⟨e, f⟩, g⟩, i⟩ := h
  obtain ⟨n, hn, p, q⟩ := ext_n a b c d
  exact ⟨a, b, c, d, by omega, rfl, by omega, by omega, by omega, by omega, by omega⟩
theorem PlN.ofV {r : PL} (h : vPl r = true) : PlN r r.W.length := PlN.of (by unfold vPl at h; simp only [Bool.and_eq_true] at h; exact h.1.1.1)
theorem vPl_no {r : PL} (h : hPl r = false) : vPl r = false := by unfold vPl; rw [h]; rfl
theorem hPl_x {r : PL} (h : exX r = false) : hPl r = false := by unfold hPl; rw [h]; rfl
theorem hPl_y {r : PL} (h : exY r = false) : hPl r = false := by unfold hPl; rw [h]; simp
theorem hPl_l {r : PL} (h : lenP r = false) : hPl r = false := by unfold hPl; rw [h]; simp

theorem specPl_x (a b c d : Value) (r : PL) (p : Nat) (w : World) (A0 : Cells w p (pvs r a b c d)) (h : PRow w a b c d r) (hx : exX r = false) : Calls Try.prog 59 #[.pointer (some ⟨p, 0, none⟩)] w (Bol false w) := by
  have A := Lib.hid A0
  have c0 := A.out.at 0 rfl
  have c1 := A.out.at 1 rfl
  have c2 := A.out.at 2 rfl
  have c3 := A.out.at 3 rfl
  have c4 := A.out.at 4 rfl
  have c5 := A.out.at 5 rfl
  clear A0 h
  go_enter Try.func59, Try.ntmps59
  go_wp2_with fail
  refine (inb_any r.X 1 12 false hx _).mono ?_
  rintro e w' ⟨rfl, n1, rfl⟩
  go_wp2
  go_ret
  exact ⟨rfl, _, rfl⟩

theorem specPl_y (a b c d : Value) (r : PL) (p : Nat) (w : World) (A0 : Cells w p (pvs r a b c d)) (h : PRow w a b c d r) (hx : exX r = true) (hy : exY r = false) : Calls Try.prog 59 #[.pointer (some ⟨p, 0, none⟩)] w (Bol false w) := by
  have A := Lib.hid A0
  have c0 := A.out.at 0 rfl
  have c1 := A.out.at 1 rfl
  have c2 := A.out.at 2 rfl
  have c3 := A.out.at 3 rfl
  have c4 := A.out.at 4 rfl
  have c5 := A.out.at 5 rfl
  clear A0 h
  go_enter Try.func59, Try.ntmps59
  go_wp2_with fail
  refine (inb_any r.X 1 12 true hx _).mono ?_
  rintro e w' ⟨rfl, n1, rfl⟩
  go_wp2_with fail
  refine (inb_any r.Y 1 12 false hy _).mono ?_
  rintro e w' ⟨rfl, n2, rfl⟩
  go_wp2
  go_ret
  exact ⟨rfl, _, rfl⟩

theorem specPl_l (a b c d : Value) (r : PL) (p : Nat) (w : World) (A0 : Cells w p (pvs r a b c d)) (h : PRow w a b c d r) (hx : exX r = true) (hy : exY r = true) (hl : lenP r = false) : Calls Try.prog 59 #[.pointer (some ⟨p, 0, none⟩)] w (Bol false w) := by
  have A := Lib.hid A0
  clear A0
  have hn : ∃ n : Nat, r.X * r.Y = (n : Int) ∧ 1 ≤ n ∧ n ≤ 144 := by
    unfold exX at hx; unfold exY at hy
    simp only [Bool.and_eq_true, decide_eq_true_eq] at hx hy
    exact ext_n hx.1 hx.2 hy.1 hy.2
  obtain ⟨n, hn, n0, n9⟩ := hn
  obtain ⟨a1, a2, rfl⟩ := h.W.shape
  obtain ⟨b1, b2, rfl⟩ := h.E.shape
  obtain ⟨d1, d2, rfl⟩ := h.G.shape
  obtain ⟨e1, e2, rfl⟩ := h.H.shape
  clear h
  unfold lenP at hl
  rw [hn] at hl
  have HX := Lib.hid hx
  have HY := Lib.hid hy
  clear hx hy
  generalize r.W.length = m0 at *
  generalize r.E.length = m1 at *
  generalize r.G.length = m2 at *
  generalize r.H.length = m3 at *
  by_cases g0 : m0 = n
  · skip
    by_cases g1 : m1 = n
    · skip
      by_cases g2 : m2 = n
      · skip
        have g3 : ¬ m3 = n := by intro e; subst e; simp [g0, g1, g2] at hl
        have e0 : (m0 : Int) = r.X * r.Y := by omega
        have e0b : ((m0 : Int) == r.X * r.Y) = true := by simp; omega
        have e0c : ((m0 : Int) != r.X * r.Y) = false := by simp; omega
        have e0d : ((m0 : Int) == (n : Int)) = true := by simp; omega
        have e0e : ((m0 : Int) != (n : Int)) = false := by simp; omega
        clear e0
        have e1 : (m1 : Int) = r.X * r.Y := by omega
        have e1b : ((m1 : Int) == r.X * r.Y) = true := by simp; omega
        have e1c : ((m1 : Int) != r.X * r.Y) = false := by simp; omega
        have e1d : ((m1 : Int) == (n : Int)) = true := by simp; omega
        have e1e : ((m1 : Int) != (n : Int)) = false := by simp; omega
        clear e1
        have e2 : (m2 : Int) = r.X * r.Y := by omega
        have e2b : ((m2 : Int) == r.X * r.Y) = true := by simp; omega
        have e2c : ((m2 : Int) != r.X * r.Y) = false := by simp; omega
        have e2d : ((m2 : Int) == (n : Int)) = true := by simp; omega
        have e2e : ((m2 : Int) != (n : Int)) = false := by simp; omega
        clear e2
        have f3b : ((m3 : Int) == r.X * r.Y) = false := by simp; omega
        have f3c : ((m3 : Int) != r.X * r.Y) = true := by simp; omega
        have f3d : ((m3 : Int) == (n : Int)) = false := by simp; omega
        have f3e : ((m3 : Int) != (n : Int)) = true := by simp; omega
        clear hl g0 g1 g2 g3
        have c0 := A.out.at 0 rfl
        have c1 := A.out.at 1 rfl
        have c2 := A.out.at 2 rfl
        have c3 := A.out.at 3 rfl
        have c4 := A.out.at 4 rfl
        have c5 := A.out.at 5 rfl
        go_enter Try.func59, Try.ntmps59
        go_wp2_with fail
        refine (inb_any r.X 1 12 true HX.out _).mono ?_
        rintro e w' ⟨rfl, n1, rfl⟩
        go_wp2_with fail
        refine (inb_any r.Y 1 12 true HY.out _).mono ?_
        rintro e w' ⟨rfl, n2, rfl⟩
        go_wp2
        refine wp_region_loose (fun _ _ _ => True) (by kernel_rfl) (by kernel_rfl) ?_
        repeat (first | (refine wpLoose_farith rfl _ _ _ _ _ rfl rfl _ _ _ rfl rfl ?_; intro _ _) | (refine wpLoose_valK rfl ?_ (fun w1 hw1 => ?_) (fun K hK => ?_); rotate_left; (focus (obtain ⟨nq, rfl⟩ := hw1; go_simp; first | done | rfl)); go_simp; refine hK _ ?_; clear hK K))
        (refine wpLoose_nil ?_; rintro _ ⟨nq, rfl⟩)
        go_wp2
        go_ret
        exact ⟨rfl, _, rfl⟩
      · skip
        have e0 : (m0 : Int) = r.X * r.Y := by omega
        have e0b : ((m0 : Int) == r.X * r.Y) = true := by simp; omega
        have e0c : ((m0 : Int) != r.X * r.Y) = false := by simp; omega
        have e0d : ((m0 : Int) == (n : Int)) = true := by simp; omega
        have e0e : ((m0 : Int) != (n : Int)) = false := by simp; omega
        clear e0
        have e1 : (m1 : Int) = r.X * r.Y := by omega
        have e1b : ((m1 : Int) == r.X * r.Y) = true := by simp; omega
        have e1c : ((m1 : Int) != r.X * r.Y) = false := by simp; omega
        have e1d : ((m1 : Int) == (n : Int)) = true := by simp; omega
        have e1e : ((m1 : Int) != (n : Int)) = false := by simp; omega
        clear e1
        have f2b : ((m2 : Int) == r.X * r.Y) = false := by simp; omega
        have f2c : ((m2 : Int) != r.X * r.Y) = true := by simp; omega
        have f2d : ((m2 : Int) == (n : Int)) = false := by simp; omega
        have f2e : ((m2 : Int) != (n : Int)) = true := by simp; omega
        clear hl g0 g1 g2
        have c0 := A.out.at 0 rfl
        have c1 := A.out.at 1 rfl
        have c2 := A.out.at 2 rfl
        have c3 := A.out.at 3 rfl
        have c4 := A.out.at 4 rfl
        have c5 := A.out.at 5 rfl
        go_enter Try.func59, Try.ntmps59
        go_wp2_with fail
        refine (inb_any r.X 1 12 true HX.out _).mono ?_
        rintro e w' ⟨rfl, n1, rfl⟩
        go_wp2_with fail
        refine (inb_any r.Y 1 12 true HY.out _).mono ?_
        rintro e w' ⟨rfl, n2, rfl⟩
        go_wp2
        refine wp_region_loose (fun _ _ _ => True) (by kernel_rfl) (by kernel_rfl) ?_
        repeat (first | (refine wpLoose_farith rfl _ _ _ _ _ rfl rfl _ _ _ rfl rfl ?_; intro _ _) | (refine wpLoose_valK rfl ?_ (fun w1 hw1 => ?_) (fun K hK => ?_); rotate_left; (focus (obtain ⟨nq, rfl⟩ := hw1; go_simp; first | done | rfl)); go_simp; refine hK _ ?_; clear hK K))
        (refine wpLoose_nil ?_; rintro _ ⟨nq, rfl⟩)
        go_wp2
        go_ret
        exact ⟨rfl, _, rfl⟩
    · skip
      have e0 : (m0 : Int) = r.X * r.Y := by omega
      have e0b : ((m0 : Int) == r.X * r.Y) = true := by simp; omega
      have e0c : ((m0 : Int) != r.X * r.Y) = false := by simp; omega
      have e0d : ((m0 : Int) == (n : Int)) = true := by simp; omega
      have e0e : ((m0 : Int) != (n : Int)) = false := by simp; omega
      clear e0
      have f1b : ((m1 : Int) == r.X * r.Y) = false := by simp; omega
      have f1c : ((m1 : Int) != r.X * r.Y) = true := by simp; omega
      have f1d : ((m1 : Int) == (n : Int)) = false := by simp; omega
      have f1e : ((m1 : Int) != (n : Int)) = true := by simp; omega
      clear hl g0 g1
      have c0 := A.out.at 0 rfl
      have c1 := A.out.at 1 rfl
      have c2 := A.out.at 2 rfl
      have c3 := A.out.at 3 rfl
      have c4 := A.out.at 4 rfl
      have c5 := A.out.at 5 rfl
      go_enter Try.func59, Try.ntmps59
      go_wp2_with fail
      refine (inb_any r.X 1 12 true HX.out _).mono ?_
      rintro e w' ⟨rfl, n1, rfl⟩
      go_wp2_with fail
      refine (inb_any r.Y 1 12 true HY.out _).mono ?_
      rintro e w' ⟨rfl, n2, rfl⟩
      go_wp2
      refine wp_region_loose (fun _ _ _ => True) (by kernel_rfl) (by kernel_rfl) ?_
      repeat (first | (refine wpLoose_farith rfl _ _ _ _ _ rfl rfl _ _ _ rfl rfl ?_; intro _ _) | (refine wpLoose_valK rfl ?_ (fun w1 hw1 => ?_) (fun K hK => ?_); rotate_left; (focus (obtain ⟨nq, rfl⟩ := hw1; go_simp; first | done | rfl)); go_simp; refine hK _ ?_; clear hK K))
      (refine wpLoose_nil ?_; rintro _ ⟨nq, rfl⟩)
      go_wp2
      go_ret
      exact ⟨rfl, _, rfl⟩
  · skip
    have f0b : ((m0 : Int) == r.X * r.Y) = false := by simp; omega
    have f0c : ((m0 : Int) != r.X * r.Y) = true := by simp; omega
    have f0d : ((m0 : Int) == (n : Int)) = false := by simp; omega
    have f0e : ((m0 : Int) != (n : Int)) = true := by simp; omega
    clear hl g0
    have c0 := A.out.at 0 rfl
    have c1 := A.out.at 1 rfl
    have c2 := A.out.at 2 rfl
    have c3 := A.out.at 3 rfl
    have c4 := A.out.at 4 rfl
    have c5 := A.out.at 5 rfl
    go_enter Try.func59, Try.ntmps59
    go_wp2_with fail
    refine (inb_any r.X 1 12 true HX.out _).mono ?_
    rintro e w' ⟨rfl, n1, rfl⟩
    go_wp2_with fail
    refine (inb_any r.Y 1 12 true HY.out _).mono ?_
    rintro e w' ⟨rfl, n2, rfl⟩
    go_wp2
    refine wp_region_loose (fun _ _ _ => True) (by kernel_rfl) (by kernel_rfl) ?_
    repeat (first | (refine wpLoose_farith rfl _ _ _ _ _ rfl rfl _ _ _ rfl rfl ?_; intro _ _) | (refine wpLoose_valK rfl ?_ (fun w1 hw1 => ?_) (fun K hK => ?_); rotate_left; (focus (obtain ⟨nq, rfl⟩ := hw1; go_simp; first | done | rfl)); go_simp; refine hK _ ?_; clear hK K))
    (refine wpLoose_nil ?_; rintro _ ⟨nq, rfl⟩)
    go_wp2
    go_ret
    exact ⟨rfl, _, rfl⟩

theorem all_no {f : Nat → Bool} {zs : List Nat} {k : Nat} (hk : k < zs.length) (h : f (zs.getD k 0) = false) : zs.all f = false := by
  rw [List.all_eq_false]
  exact ⟨zs.getD k 0, by simp [List.getD_eq_getElem?_getD, hk], by rw [h]; decide⟩
theorem all_yes {f : Nat → Bool} {zs : List Nat} (h : ∀ j, j < zs.length → f (zs.getD j 0) = true) : zs.all f = true := by
  rw [List.all_eq_true]
  intro x hx
  obtain ⟨i, hi, rfl⟩ := List.mem_iff_getElem.1 hx
  have := h i hi
  simpa [List.getD_eq_getElem?_getD, hi] using this
theorem all_at {f : Nat → Bool} {zs : List Nat} {k : Nat} (h : zs.all f = true) (hk : k < zs.length) : f (zs.getD k 0) = true := by
  rw [List.all_eq_true] at h
  exact h _ (by simp [List.getD_eq_getElem?_getD, hk])
theorem vPl_e {r : PL} (h : r.E.all pos = false) : vPl r = false := by unfold vPl; rw [h]; simp

set_option maxRecDepth 10000 in
set_option maxHeartbeats 1600000 in
theorem specPl_ok (a b c d : Value) (r : PL) (p : Nat) (w : World) (A0 : Cells w p (pvs r a b c d)) (h : PRow w a b c d r) (hb : hPl r = true) : Calls Try.prog 59 #[.pointer (some ⟨p, 0, none⟩)] w (Bol (vPl r) w) := by
  have A := Lib.hid A0
  clear A0
  have FR := Lib.hid h
  obtain ⟨x1, x2, y1, y2, xy, lW, lE, lG, lH, n0, n9⟩ := PlN.of hb
  have HX : Hid ((decide (1 ≤ r.X) && decide (r.X ≤ 12)) = true) := Lib.hid (by simp [x1, x2])
  have HY : Hid ((decide (1 ≤ r.Y) && decide (r.Y ≤ 12)) = true) := Lib.hid (by simp [y1, y2])
  have VE : Hid (vPl r = (r.W.all (fin .f32) && r.E.all pos && r.G.all (fin .f32))) := Lib.hid (by unfold vPl; rw [hb]; simp)
  clear hb x1 x2 y1 y2
  have VN := Lib.hid (fun k (hk : k < r.E.length) (h : pos (r.E.getD k 0) = false) => vPl_e (all_no hk h))
  have VY := Lib.hid (fun h => all_yes (f := pos) (zs := r.E) h)
  obtain ⟨b1, o1, k1, rfl, h1⟩ := h.E.cells (by omega)
  obtain ⟨a1, a2, rfl⟩ := h.W.shape
  obtain ⟨d1, d2, rfl⟩ := h.G.shape
  obtain ⟨e1, e2, rfl⟩ := h.H.shape
  clear h
  rw [lE] at h1 VN VY
  have c0 := A.out.at 0 rfl
  have c1 := A.out.at 1 rfl
  have c2 := A.out.at 2 rfl
  have c3 := A.out.at 3 rfl
  have c4 := A.out.at 4 rfl
  have c5 := A.out.at 5 rfl
  rw [lE] at c3
  rw [lG] at c4
  rw [lH] at c5
  have FW := Lib.hid FR.out.W
  have FG := Lib.hid FR.out.G
  rw [lG] at FG
  generalize r.W.length = n at *
  generalize vPl r = bb at *
  clear lW lE lG lH FR
  have H1 := Lib.hid h1
  clear h1
  have f1 : ((n : Int) == r.X * r.Y) = true := by simp [xy]
  have f2 : ((n : Int) != r.X * r.Y) = false := by simp [xy]

  go_enter Try.func59, Try.ntmps59
  go_wp2_with fail
  refine (inb_any r.X 1 12 true HX.out _).mono ?_
  rintro e w' ⟨rfl, n1, rfl⟩
  go_wp2_with fail
  refine (inb_any r.Y 1 12 true HY.out _).mono ?_
  rintro e w' ⟨rfl, n2, rfl⟩
  go_wp2
  refine wp_region_loose (fun _ _ _ => True) (by kernel_rfl) (by kernel_rfl) ?_
  repeat (first | (refine wpLoose_farith rfl _ _ _ _ _ rfl rfl _ _ _ rfl rfl ?_; intro _ _) | (refine wpLoose_valK rfl ?_ (fun w1 hw1 => ?_) (fun K hK => ?_); rotate_left; (focus (obtain ⟨nq, rfl⟩ := hw1; go_simp; first | done | rfl)); go_simp; refine hK _ ?_; clear hK K))
  (refine wpLoose_nil ?_; rintro _ ⟨nq, rfl⟩)
  go_wp2
  go_loopw [4] (fun i wr => ∃ k q : Nat, k ≤ n ∧ i = .int .i64 k ∧ Hid (∀ j, j < k → pos (r.E.getD j 0) = true) ∧ wr = w.drewN q) (fun i _ => n - (intOf i).toNat)
  case atStart => exact ⟨0, _, Nat.zero_le _, rfl, Lib.hid (fun j hj => absurd hj (Nat.not_lt_zero _)), rfl⟩
  case round =>
    obtain ⟨k, q, hk, rfl, hall, rfl⟩ := hrel
    by_cases hlt : k < n
    · have z1 := H1.out k hlt
      have hi : (0 : Int) ≤ (k : Int) := by omega
      have hi' : (k : Int) < (n : Int) := by omega
      have VNk := Lib.hid (VN.out k hlt)
      generalize hy1 : (r.E.getD k 0) = y1 at *
      cases B1 : pos y1
      · have V := Lib.hid (VNk.out B1)
        clear hy1
        go_wp2_with fail
        refine (specAbove_any y1 _).mono ?_
        rw [B1]
        rintro e w' ⟨rfl, n3, rfl⟩
        go_wp2
        go_ret
        exact ⟨ret_b V.out, _, rfl⟩
      · have V := Lib.hid (show pos (r.E.getD k 0) = true by rw [hy1, B1])
        clear hy1
        go_wp2_with fail
        refine (specAbove_any y1 _).mono ?_
        rw [B1]
        rintro e w' ⟨rfl, n3, rfl⟩
        go_wp2
        go_roundw
        case rel => exact ⟨k + 1, _, by omega, by go_num, Lib.hid (fun j hj => by rcases Nat.lt_succ_iff_lt_or_eq.1 hj with h | h; exact hall.out j h; subst h; exact V.out), rfl⟩
        case measure => simp [intOf]; omega
    · have e := Lib.hid (show k = n by omega)
      have VE2 : Hid (bb = (r.W.all (fin .f32) && r.G.all (fin .f32))) := Lib.hid (by have := e.out; subst this; rw [VE.out, VY.out hall.out]; simp)
      cases B0 : r.W.all (fin .f32)
      · have V : Hid (bb = false) := Lib.hid (by rw [VE2.out, B0]; rfl)
        go_wp2_with fail
        refine (specFinL_any _ _ _ (FW.out.drewN)).mono ?_
        rw [B0]
        rintro e w' ⟨rfl, n3, rfl⟩
        go_wp2
        go_ret
        exact ⟨ret_b V.out, _, rfl⟩
      · have V : Hid (bb = r.G.all (fin .f32)) := Lib.hid (by rw [VE2.out, B0]; rfl)
        go_wp2_with fail
        refine (specFinL_any _ _ _ (FW.out.drewN)).mono ?_
        rw [B0]
        rintro e w' ⟨rfl, n3, rfl⟩
        go_wp2_with fail
        refine (specFinL_any _ _ _ (FG.out.drewN)).mono ?_
        rintro e w' ⟨rfl, n4, rfl⟩
        go_wp2
        go_ret
        exact ⟨ret_b V.out, _, rfl⟩

theorem specPl_any (a b c d : Value) (r : PL) (p : Nat) (w : World) (A0 : Cells w p (pvs r a b c d)) (h : PRow w a b c d r) : Calls Try.prog 59 #[.pointer (some ⟨p, 0, none⟩)] w (Bol (vPl r) w) := by
  cases hx : exX r
  · rw [vPl_no (hPl_x hx)]; exact specPl_x a b c d r p w A0 h hx
  · cases hy : exY r
    · rw [vPl_no (hPl_y hy)]; exact specPl_y a b c d r p w A0 h hx hy
    · cases hl : lenP r
      · rw [vPl_no (hPl_l hl)]; exact specPl_l a b c d r p w A0 h hx hy hl
      · exact specPl_ok a b c d r p w A0 h (by unfold hPl; rw [hx, hy, hl]; rfl)

theorem extentOf_any (x y : Int) (a b c d : Value) (w : World) : Calls Try.prog 75 #[.agg #[.int .i64 x, .int .i64 y, a, b, c, d]] w fun e w' => e = .returned (.agg #[.int .i64 x, .int .i64 y]) ∧ Below w.heap.size w w' := by
  go_enter Try.func75, Try.ntmps75
  go_wp2
  refine bodyPost_ret (v := .agg #[.int .i64 x, .int .i64 y]) ?_ rfl ?_
  · rw [results_cell1 rfl]
    go_simp
  · exact ⟨rfl, by first | exact below_al1 _ _ | exact below_al2 _ _ _ | exact below_al3 _ _ _ _ | exact below_al4 _ _ _ _ _⟩
theorem isExtent_any (x y : Int) (w : World) : Calls Try.prog 35 #[.agg #[.int .i64 x, .int .i64 y]] w (BolB (decide (1 ≤ x) && decide (x ≤ 12) && (decide (1 ≤ y) && decide (y ≤ 12))) w) := by
  by_cases h1 : 1 ≤ x
  · have f1 : decide ((1 : Int) ≤ x) = true := by simp; omega
    by_cases h2 : x ≤ 12
    · have f2 : decide (x ≤ (12 : Int)) = true := by simp; omega
      by_cases h3 : 1 ≤ y
      · have f3 : decide ((1 : Int) ≤ y) = true := by simp; omega
        go_enter Try.func35, Try.ntmps35
        go_wp2
        go_ret
        exact ⟨by rw [f1, f2, f3]; simp, below_al1 _ _⟩
      · have f3 : decide ((1 : Int) ≤ y) = false := by simp; omega
        go_enter Try.func35, Try.ntmps35
        go_wp2
        go_ret
        exact ⟨by first | (simp; done) | (simp; intros; omega), below_al1 _ _⟩
    · have f2 : decide (x ≤ (12 : Int)) = false := by simp; omega
      go_enter Try.func35, Try.ntmps35
      go_wp2
      go_ret
      exact ⟨by first | (simp; done) | (simp; intros; omega), below_al1 _ _⟩
  · have f1 : decide ((1 : Int) ≤ x) = false := by simp; omega
    go_enter Try.func35, Try.ntmps35
    go_wp2
    go_ret
    exact ⟨by first | (simp; done) | (simp; intros; omega), below_al1 _ _⟩
theorem countOf_any (x y : Int) (n : Nat) (a b c d : Value) (w : World) (hn : x * y = (n : Int)) (n9 : n ≤ 144) : Calls Try.prog 76 #[.agg #[.int .i64 x, .int .i64 y, a, b, c, d]] w fun e w' => e = .returned (.int .i64 (n : Int)) ∧ Below w.heap.size w w' := by
  go_enter Try.func76, Try.ntmps76
  go_wp2
  go_ret
  exact ⟨rfl, below_al1 _ _⟩
theorem exB {r : PL} {b : Bool} (h : (exX r && exY r) = b) : (decide (1 ≤ r.X) && decide (r.X ≤ 12) && (decide (1 ≤ r.Y) && decide (r.Y ≤ 12))) = b := h

theorem implPl_x (a b c d : Value) (r : PL) (w : World) (h : PRow w a b c d r) (hx : (exX r && exY r) = false) : Calls Try.prog 60 #[.agg #[.int .i64 r.X, .int .i64 r.Y, a, b, c, d]] w (BolB false w) := by
  clear h
  have A := Lib.hid (Cells.made w (pvs r a b c d) 26)
  have Bw := Lib.hid (below_al1 w (.cells (pvs r a b c d).toArray 26))
  go_enter Try.func60, Try.ntmps60
  go_wp2_with fail
  refine (extentOf_any _ _ _ _ _ _ _).mono ?_
  rintro e w1 ⟨rfl, hb⟩
  have Bw := Lib.hid (below_step Bw.out hb); have A := Lib.hid (A.out.kept hb); have c0 := A.out.at 0 rfl; have c1 := A.out.at 1 rfl; have c2 := A.out.at 2 rfl; have c3 := A.out.at 3 rfl; have c4 := A.out.at 4 rfl; have c5 := A.out.at 5 rfl; clear hb
  go_wp2_with fail
  refine (isExtent_any _ _ _).mono ?_
  rw [exB hx]
  rintro e w2 ⟨rfl, hb⟩
  clear c0 c1 c2 c3 c4 c5
  have Bw := Lib.hid (below_step Bw.out hb); have A := Lib.hid (A.out.kept hb); have c0 := A.out.at 0 rfl; have c1 := A.out.at 1 rfl; have c2 := A.out.at 2 rfl; have c3 := A.out.at 3 rfl; have c4 := A.out.at 4 rfl; have c5 := A.out.at 5 rfl; clear hb
  go_wp2
  go_ret
  exact ⟨rfl, Bw.out⟩

theorem implPl_l (a b c d : Value) (r : PL) (w : World) (h : PRow w a b c d r) (hx : exX r = true) (hy : exY r = true) (hl : lenP r = false) : Calls Try.prog 60 #[.agg #[.int .i64 r.X, .int .i64 r.Y, a, b, c, d]] w (BolB false w) := by
  have hn : ∃ n : Nat, r.X * r.Y = (n : Int) ∧ 1 ≤ n ∧ n ≤ 144 := by
    unfold exX at hx; unfold exY at hy
    simp only [Bool.and_eq_true, decide_eq_true_eq] at hx hy
    exact ext_n hx.1 hx.2 hy.1 hy.2
  obtain ⟨n, hn, n0, n9⟩ := hn
  obtain ⟨a1, a2, rfl⟩ := h.W.shape
  obtain ⟨b1, b2, rfl⟩ := h.E.shape
  obtain ⟨d1, d2, rfl⟩ := h.G.shape
  obtain ⟨e1, e2, rfl⟩ := h.H.shape
  clear h
  unfold lenP at hl
  rw [hn] at hl
  have HX := Lib.hid hx
  have HY := Lib.hid hy
  clear hx hy
  generalize r.W.length = m0 at *
  generalize r.E.length = m1 at *
  generalize r.G.length = m2 at *
  generalize r.H.length = m3 at *
  by_cases g0 : m0 = n
  · skip
    by_cases g1 : m1 = n
    · skip
      by_cases g2 : m2 = n
      · skip
        have g3 : ¬ m3 = n := by intro e; subst e; simp [g0, g1, g2] at hl
        have e0 : (m0 : Int) = r.X * r.Y := by omega
        have e0b : ((m0 : Int) == r.X * r.Y) = true := by simp; omega
        have e0c : ((m0 : Int) != r.X * r.Y) = false := by simp; omega
        have e0d : ((m0 : Int) == (n : Int)) = true := by simp; omega
        have e0e : ((m0 : Int) != (n : Int)) = false := by simp; omega
        clear e0
        have e1 : (m1 : Int) = r.X * r.Y := by omega
        have e1b : ((m1 : Int) == r.X * r.Y) = true := by simp; omega
        have e1c : ((m1 : Int) != r.X * r.Y) = false := by simp; omega
        have e1d : ((m1 : Int) == (n : Int)) = true := by simp; omega
        have e1e : ((m1 : Int) != (n : Int)) = false := by simp; omega
        clear e1
        have e2 : (m2 : Int) = r.X * r.Y := by omega
        have e2b : ((m2 : Int) == r.X * r.Y) = true := by simp; omega
        have e2c : ((m2 : Int) != r.X * r.Y) = false := by simp; omega
        have e2d : ((m2 : Int) == (n : Int)) = true := by simp; omega
        have e2e : ((m2 : Int) != (n : Int)) = false := by simp; omega
        clear e2
        have f3b : ((m3 : Int) == r.X * r.Y) = false := by simp; omega
        have f3c : ((m3 : Int) != r.X * r.Y) = true := by simp; omega
        have f3d : ((m3 : Int) == (n : Int)) = false := by simp; omega
        have f3e : ((m3 : Int) != (n : Int)) = true := by simp; omega
        clear hl g0 g1 g2 g3
        have A := Lib.hid (Cells.made w (pvs r (.slice a1 m0 a2) (.slice b1 m1 b2) (.slice d1 m2 d2) (.slice e1 m3 e2)) 26)
        have Bw := Lib.hid (below_al1 w (.cells (pvs r (.slice a1 m0 a2) (.slice b1 m1 b2) (.slice d1 m2 d2) (.slice e1 m3 e2)).toArray 26))
        have HN := Lib.hid hn
        have N9 := Lib.hid n9
        go_enter Try.func60, Try.ntmps60
        have HXY : (exX r && exY r) = true := by rw [HX.out, HY.out]; rfl
        go_wp2_with fail
        refine (extentOf_any _ _ _ _ _ _ _).mono ?_
        rintro e w1 ⟨rfl, hb⟩
        have Bw := Lib.hid (below_step Bw.out hb); have A := Lib.hid (A.out.kept hb); have c0 := A.out.at 0 rfl; have c1 := A.out.at 1 rfl; have c2 := A.out.at 2 rfl; have c3 := A.out.at 3 rfl; have c4 := A.out.at 4 rfl; have c5 := A.out.at 5 rfl; clear hb
        go_wp2_with fail
        refine (isExtent_any _ _ _).mono ?_
        rw [exB HXY]
        rintro e w2 ⟨rfl, hb⟩
        clear c0 c1 c2 c3 c4 c5
        have Bw := Lib.hid (below_step Bw.out hb); have A := Lib.hid (A.out.kept hb); have c0 := A.out.at 0 rfl; have c1 := A.out.at 1 rfl; have c2 := A.out.at 2 rfl; have c3 := A.out.at 3 rfl; have c4 := A.out.at 4 rfl; have c5 := A.out.at 5 rfl; clear hb
        go_wp2_with fail
        refine (countOf_any _ _ n _ _ _ _ _ HN.out N9.out).mono ?_
        rintro e w3 ⟨rfl, hb⟩
        clear c0 c1 c2 c3 c4 c5
        have Bw := Lib.hid (below_step Bw.out hb); have A := Lib.hid (A.out.kept hb); have c0 := A.out.at 0 rfl; have c1 := A.out.at 1 rfl; have c2 := A.out.at 2 rfl; have c3 := A.out.at 3 rfl; have c4 := A.out.at 4 rfl; have c5 := A.out.at 5 rfl; clear hb
        go_wp2
        go_ret
        exact ⟨rfl, Bw.out⟩
      · skip
        have e0 : (m0 : Int) = r.X * r.Y := by omega
        have e0b : ((m0 : Int) == r.X * r.Y) = true := by simp; omega
        have e0c : ((m0 : Int) != r.X * r.Y) = false := by simp; omega
        have e0d : ((m0 : Int) == (n : Int)) = true := by simp; omega
        have e0e : ((m0 : Int) != (n : Int)) = false := by simp; omega
        clear e0
        have e1 : (m1 : Int) = r.X * r.Y := by omega
        have e1b : ((m1 : Int) == r.X * r.Y) = true := by simp; omega
        have e1c : ((m1 : Int) != r.X * r.Y) = false := by simp; omega
        have e1d : ((m1 : Int) == (n : Int)) = true := by simp; omega
        have e1e : ((m1 : Int) != (n : Int)) = false := by simp; omega
        clear e1
        have f2b : ((m2 : Int) == r.X * r.Y) = false := by simp; omega
        have f2c : ((m2 : Int) != r.X * r.Y) = true := by simp; omega
        have f2d : ((m2 : Int) == (n : Int)) = false := by simp; omega
        have f2e : ((m2 : Int) != (n : Int)) = true := by simp; omega
        clear hl g0 g1 g2
        have A := Lib.hid (Cells.made w (pvs r (.slice a1 m0 a2) (.slice b1 m1 b2) (.slice d1 m2 d2) (.slice e1 m3 e2)) 26)
        have Bw := Lib.hid (below_al1 w (.cells (pvs r (.slice a1 m0 a2) (.slice b1 m1 b2) (.slice d1 m2 d2) (.slice e1 m3 e2)).toArray 26))
        have HN := Lib.hid hn
        have N9 := Lib.hid n9
        go_enter Try.func60, Try.ntmps60
        have HXY : (exX r && exY r) = true := by rw [HX.out, HY.out]; rfl
        go_wp2_with fail
        refine (extentOf_any _ _ _ _ _ _ _).mono ?_
        rintro e w1 ⟨rfl, hb⟩
        have Bw := Lib.hid (below_step Bw.out hb); have A := Lib.hid (A.out.kept hb); have c0 := A.out.at 0 rfl; have c1 := A.out.at 1 rfl; have c2 := A.out.at 2 rfl; have c3 := A.out.at 3 rfl; have c4 := A.out.at 4 rfl; have c5 := A.out.at 5 rfl; clear hb
        go_wp2_with fail
        refine (isExtent_any _ _ _).mono ?_
        rw [exB HXY]
        rintro e w2 ⟨rfl, hb⟩
        clear c0 c1 c2 c3 c4 c5
        have Bw := Lib.hid (below_step Bw.out hb); have A := Lib.hid (A.out.kept hb); have c0 := A.out.at 0 rfl; have c1 := A.out.at 1 rfl; have c2 := A.out.at 2 rfl; have c3 := A.out.at 3 rfl; have c4 := A.out.at 4 rfl; have c5 := A.out.at 5 rfl; clear hb
        go_wp2_with fail
        refine (countOf_any _ _ n _ _ _ _ _ HN.out N9.out).mono ?_
        rintro e w3 ⟨rfl, hb⟩
        clear c0 c1 c2 c3 c4 c5
        have Bw := Lib.hid (below_step Bw.out hb); have A := Lib.hid (A.out.kept hb); have c0 := A.out.at 0 rfl; have c1 := A.out.at 1 rfl; have c2 := A.out.at 2 rfl; have c3 := A.out.at 3 rfl; have c4 := A.out.at 4 rfl; have c5 := A.out.at 5 rfl; clear hb
        go_wp2
        go_ret
        exact ⟨rfl, Bw.out⟩
    · skip
      have e0 : (m0 : Int) = r.X * r.Y := by omega
      have e0b : ((m0 : Int) == r.X * r.Y) = true := by simp; omega
      have e0c : ((m0 : Int) != r.X * r.Y) = false := by simp; omega
      have e0d : ((m0 : Int) == (n : Int)) = true := by simp; omega
      have e0e : ((m0 : Int) != (n : Int)) = false := by simp; omega
      clear e0
      have f1b : ((m1 : Int) == r.X * r.Y) = false := by simp; omega
      have f1c : ((m1 : Int) != r.X * r.Y) = true := by simp; omega
      have f1d : ((m1 : Int) == (n : Int)) = false := by simp; omega
      have f1e : ((m1 : Int) != (n : Int)) = true := by simp; omega
      clear hl g0 g1
      have A := Lib.hid (Cells.made w (pvs r (.slice a1 m0 a2) (.slice b1 m1 b2) (.slice d1 m2 d2) (.slice e1 m3 e2)) 26)
      have Bw := Lib.hid (below_al1 w (.cells (pvs r (.slice a1 m0 a2) (.slice b1 m1 b2) (.slice d1 m2 d2) (.slice e1 m3 e2)).toArray 26))
      have HN := Lib.hid hn
      have N9 := Lib.hid n9
      go_enter Try.func60, Try.ntmps60
      have HXY : (exX r && exY r) = true := by rw [HX.out, HY.out]; rfl
      go_wp2_with fail
      refine (extentOf_any _ _ _ _ _ _ _).mono ?_
      rintro e w1 ⟨rfl, hb⟩
      have Bw := Lib.hid (below_step Bw.out hb); have A := Lib.hid (A.out.kept hb); have c0 := A.out.at 0 rfl; have c1 := A.out.at 1 rfl; have c2 := A.out.at 2 rfl; have c3 := A.out.at 3 rfl; have c4 := A.out.at 4 rfl; have c5 := A.out.at 5 rfl; clear hb
      go_wp2_with fail
      refine (isExtent_any _ _ _).mono ?_
      rw [exB HXY]
      rintro e w2 ⟨rfl, hb⟩
      clear c0 c1 c2 c3 c4 c5
      have Bw := Lib.hid (below_step Bw.out hb); have A := Lib.hid (A.out.kept hb); have c0 := A.out.at 0 rfl; have c1 := A.out.at 1 rfl; have c2 := A.out.at 2 rfl; have c3 := A.out.at 3 rfl; have c4 := A.out.at 4 rfl; have c5 := A.out.at 5 rfl; clear hb
      go_wp2_with fail
      refine (countOf_any _ _ n _ _ _ _ _ HN.out N9.out).mono ?_
      rintro e w3 ⟨rfl, hb⟩
      clear c0 c1 c2 c3 c4 c5
      have Bw := Lib.hid (below_step Bw.out hb); have A := Lib.hid (A.out.kept hb); have c0 := A.out.at 0 rfl; have c1 := A.out.at 1 rfl; have c2 := A.out.at 2 rfl; have c3 := A.out.at 3 rfl; have c4 := A.out.at 4 rfl; have c5 := A.out.at 5 rfl; clear hb
      go_wp2
      go_ret
      exact ⟨rfl, Bw.out⟩
  · skip
    have f0b : ((m0 : Int) == r.X * r.Y) = false := by simp; omega
    have f0c : ((m0 : Int) != r.X * r.Y) = true := by simp; omega
    have f0d : ((m0 : Int) == (n : Int)) = false := by simp; omega
    have f0e : ((m0 : Int) != (n : Int)) = true := by simp; omega
    clear hl g0
    have A := Lib.hid (Cells.made w (pvs r (.slice a1 m0 a2) (.slice b1 m1 b2) (.slice d1 m2 d2) (.slice e1 m3 e2)) 26)
    have Bw := Lib.hid (below_al1 w (.cells (pvs r (.slice a1 m0 a2) (.slice b1 m1 b2) (.slice d1 m2 d2) (.slice e1 m3 e2)).toArray 26))
    have HN := Lib.hid hn
    have N9 := Lib.hid n9
    go_enter Try.func60, Try.ntmps60
    have HXY : (exX r && exY r) = true := by rw [HX.out, HY.out]; rfl
    go_wp2_with fail
    refine (extentOf_any _ _ _ _ _ _ _).mono ?_
    rintro e w1 ⟨rfl, hb⟩
    have Bw := Lib.hid (below_step Bw.out hb); have A := Lib.hid (A.out.kept hb); have c0 := A.out.at 0 rfl; have c1 := A.out.at 1 rfl; have c2 := A.out.at 2 rfl; have c3 := A.out.at 3 rfl; have c4 := A.out.at 4 rfl; have c5 := A.out.at 5 rfl; clear hb
    go_wp2_with fail
    refine (isExtent_any _ _ _).mono ?_
    rw [exB HXY]
    rintro e w2 ⟨rfl, hb⟩
    clear c0 c1 c2 c3 c4 c5
    have Bw := Lib.hid (below_step Bw.out hb); have A := Lib.hid (A.out.kept hb); have c0 := A.out.at 0 rfl; have c1 := A.out.at 1 rfl; have c2 := A.out.at 2 rfl; have c3 := A.out.at 3 rfl; have c4 := A.out.at 4 rfl; have c5 := A.out.at 5 rfl; clear hb
    go_wp2_with fail
    refine (countOf_any _ _ n _ _ _ _ _ HN.out N9.out).mono ?_
    rintro e w3 ⟨rfl, hb⟩
    clear c0 c1 c2 c3 c4 c5
    have Bw := Lib.hid (below_step Bw.out hb); have A := Lib.hid (A.out.kept hb); have c0 := A.out.at 0 rfl; have c1 := A.out.at 1 rfl; have c2 := A.out.at 2 rfl; have c3 := A.out.at 3 rfl; have c4 := A.out.at 4 rfl; have c5 := A.out.at 5 rfl; clear hb
    go_wp2
    go_ret
    exact ⟨rfl, Bw.out⟩

set_option maxHeartbeats 1600000 in
theorem implPl_ok (a b c d : Value) (r : PL) (w : World) (h : PRow w a b c d r) (hb : hPl r = true) : Calls Try.prog 60 #[.agg #[.int .i64 r.X, .int .i64 r.Y, a, b, c, d]] w (BolB (vPl r) w) := by
  have R := Lib.hid (fun w1 (hb : Below w.heap.size w w1) => h.below hb)
  obtain ⟨x1, x2, y1, y2, xy, lW, lE, lG, lH, n0, n9⟩ := PlN.of hb
  have HXY : Hid ((exX r && exY r) = true) := Lib.hid (by unfold exX exY; simp [x1, x2, y1, y2])
  rw [show vPl r = (r.W.all (fin .f32) && r.E.all pos && r.G.all (fin .f32)) from by unfold vPl; rw [hb]; simp]
  clear hb x1 x2 y1 y2
  obtain ⟨b0, k0, rfl⟩ := h.W.shape
  obtain ⟨b1, k1, rfl⟩ := h.E.shape
  obtain ⟨b2, k2, rfl⟩ := h.G.shape
  obtain ⟨b3, k3, rfl⟩ := h.H.shape
  rw [lE, lG, lH] at R ⊢
  clear h lE lG lH lW
  generalize r.W.length = n at *
  have HN := Lib.hid xy
  have N9 := Lib.hid n9
  clear xy
  have A := Lib.hid (Cells.made w (pvs r (.slice b0 n k0) (.slice b1 n k1) (.slice b2 n k2) (.slice b3 n k3)) 26)
  have Bw := Lib.hid (below_al1 w (.cells (pvs r (.slice b0 n k0) (.slice b1 n k1) (.slice b2 n k2) (.slice b3 n k3)).toArray 26))
  cases B0 : r.W.all (fin .f32)
  · skip
    go_enter Try.func60, Try.ntmps60
    go_wp2_with fail
    refine (extentOf_any _ _ _ _ _ _ _).mono ?_
    rintro e w1 ⟨rfl, hb⟩
    have Bw := Lib.hid (below_step Bw.out hb); have A := Lib.hid (A.out.kept hb); have c0 := A.out.at 0 rfl; have c1 := A.out.at 1 rfl; have c2 := A.out.at 2 rfl; have c3 := A.out.at 3 rfl; have c4 := A.out.at 4 rfl; have c5 := A.out.at 5 rfl; clear hb
    go_wp2_with fail
    refine (isExtent_any _ _ _).mono ?_
    rw [exB HXY.out]
    rintro e w2 ⟨rfl, hb⟩
    clear c0 c1 c2 c3 c4 c5
    have Bw := Lib.hid (below_step Bw.out hb); have A := Lib.hid (A.out.kept hb); have c0 := A.out.at 0 rfl; have c1 := A.out.at 1 rfl; have c2 := A.out.at 2 rfl; have c3 := A.out.at 3 rfl; have c4 := A.out.at 4 rfl; have c5 := A.out.at 5 rfl; clear hb
    go_wp2_with fail
    refine (countOf_any _ _ n _ _ _ _ _ HN.out N9.out).mono ?_
    rintro e w3 ⟨rfl, hb⟩
    clear c0 c1 c2 c3 c4 c5
    have Bw := Lib.hid (below_step Bw.out hb); have A := Lib.hid (A.out.kept hb); have c0 := A.out.at 0 rfl; have c1 := A.out.at 1 rfl; have c2 := A.out.at 2 rfl; have c3 := A.out.at 3 rfl; have c4 := A.out.at 4 rfl; have c5 := A.out.at 5 rfl; clear hb
    go_wp2_with (first | (go_at_call_of 77 b0; refine (allFin_any _ _ _ (R.out _ Bw.out).W).mono ?_; rw [B0]; rintro e w' ⟨rfl, hb⟩; have Bw := Lib.hid (below_step Bw.out hb); have A := Lib.hid (A.out.kept hb); have c0 := A.out.at 0 rfl; have c1 := A.out.at 1 rfl; have c2 := A.out.at 2 rfl; have c3 := A.out.at 3 rfl; have c4 := A.out.at 4 rfl; have c5 := A.out.at 5 rfl; clear hb))
    go_ret
    exact ⟨ret_b (by simp), Bw.out⟩
  · cases B1 : r.E.all pos
    · skip
      go_enter Try.func60, Try.ntmps60
      go_wp2_with fail
      refine (extentOf_any _ _ _ _ _ _ _).mono ?_
      rintro e w1 ⟨rfl, hb⟩
      have Bw := Lib.hid (below_step Bw.out hb); have A := Lib.hid (A.out.kept hb); have c0 := A.out.at 0 rfl; have c1 := A.out.at 1 rfl; have c2 := A.out.at 2 rfl; have c3 := A.out.at 3 rfl; have c4 := A.out.at 4 rfl; have c5 := A.out.at 5 rfl; clear hb
      go_wp2_with fail
      refine (isExtent_any _ _ _).mono ?_
      rw [exB HXY.out]
      rintro e w2 ⟨rfl, hb⟩
      clear c0 c1 c2 c3 c4 c5
      have Bw := Lib.hid (below_step Bw.out hb); have A := Lib.hid (A.out.kept hb); have c0 := A.out.at 0 rfl; have c1 := A.out.at 1 rfl; have c2 := A.out.at 2 rfl; have c3 := A.out.at 3 rfl; have c4 := A.out.at 4 rfl; have c5 := A.out.at 5 rfl; clear hb
      go_wp2_with fail
      refine (countOf_any _ _ n _ _ _ _ _ HN.out N9.out).mono ?_
      rintro e w3 ⟨rfl, hb⟩
      clear c0 c1 c2 c3 c4 c5
      have Bw := Lib.hid (below_step Bw.out hb); have A := Lib.hid (A.out.kept hb); have c0 := A.out.at 0 rfl; have c1 := A.out.at 1 rfl; have c2 := A.out.at 2 rfl; have c3 := A.out.at 3 rfl; have c4 := A.out.at 4 rfl; have c5 := A.out.at 5 rfl; clear hb
      go_wp2_with (first | (go_at_call_of 77 b0; refine (allFin_any _ _ _ (R.out _ Bw.out).W).mono ?_; rw [B0]; rintro e w' ⟨rfl, hb⟩; have Bw := Lib.hid (below_step Bw.out hb); have A := Lib.hid (A.out.kept hb); have c0 := A.out.at 0 rfl; have c1 := A.out.at 1 rfl; have c2 := A.out.at 2 rfl; have c3 := A.out.at 3 rfl; have c4 := A.out.at 4 rfl; have c5 := A.out.at 5 rfl; clear hb) | (go_at_call_of 77 b1; refine (allPos_any _ _ _ (R.out _ Bw.out).E).mono ?_; rw [B1]; rintro e w' ⟨rfl, hb⟩; have Bw := Lib.hid (below_step Bw.out hb); have A := Lib.hid (A.out.kept hb); have c0 := A.out.at 0 rfl; have c1 := A.out.at 1 rfl; have c2 := A.out.at 2 rfl; have c3 := A.out.at 3 rfl; have c4 := A.out.at 4 rfl; have c5 := A.out.at 5 rfl; clear hb))
      go_ret
      exact ⟨ret_b (by simp), Bw.out⟩
    · cases B2 : r.G.all (fin .f32)
      · skip
        go_enter Try.func60, Try.ntmps60
        go_wp2_with fail
        refine (extentOf_any _ _ _ _ _ _ _).mono ?_
        rintro e w1 ⟨rfl, hb⟩
        have Bw := Lib.hid (below_step Bw.out hb); have A := Lib.hid (A.out.kept hb); have c0 := A.out.at 0 rfl; have c1 := A.out.at 1 rfl; have c2 := A.out.at 2 rfl; have c3 := A.out.at 3 rfl; have c4 := A.out.at 4 rfl; have c5 := A.out.at 5 rfl; clear hb
        go_wp2_with fail
        refine (isExtent_any _ _ _).mono ?_
        rw [exB HXY.out]
        rintro e w2 ⟨rfl, hb⟩
        clear c0 c1 c2 c3 c4 c5
        have Bw := Lib.hid (below_step Bw.out hb); have A := Lib.hid (A.out.kept hb); have c0 := A.out.at 0 rfl; have c1 := A.out.at 1 rfl; have c2 := A.out.at 2 rfl; have c3 := A.out.at 3 rfl; have c4 := A.out.at 4 rfl; have c5 := A.out.at 5 rfl; clear hb
        go_wp2_with fail
        refine (countOf_any _ _ n _ _ _ _ _ HN.out N9.out).mono ?_
        rintro e w3 ⟨rfl, hb⟩
        clear c0 c1 c2 c3 c4 c5
        have Bw := Lib.hid (below_step Bw.out hb); have A := Lib.hid (A.out.kept hb); have c0 := A.out.at 0 rfl; have c1 := A.out.at 1 rfl; have c2 := A.out.at 2 rfl; have c3 := A.out.at 3 rfl; have c4 := A.out.at 4 rfl; have c5 := A.out.at 5 rfl; clear hb
        go_wp2_with (first | (go_at_call_of 77 b0; refine (allFin_any _ _ _ (R.out _ Bw.out).W).mono ?_; rw [B0]; rintro e w' ⟨rfl, hb⟩; have Bw := Lib.hid (below_step Bw.out hb); have A := Lib.hid (A.out.kept hb); have c0 := A.out.at 0 rfl; have c1 := A.out.at 1 rfl; have c2 := A.out.at 2 rfl; have c3 := A.out.at 3 rfl; have c4 := A.out.at 4 rfl; have c5 := A.out.at 5 rfl; clear hb) | (go_at_call_of 77 b1; refine (allPos_any _ _ _ (R.out _ Bw.out).E).mono ?_; rw [B1]; rintro e w' ⟨rfl, hb⟩; have Bw := Lib.hid (below_step Bw.out hb); have A := Lib.hid (A.out.kept hb); have c0 := A.out.at 0 rfl; have c1 := A.out.at 1 rfl; have c2 := A.out.at 2 rfl; have c3 := A.out.at 3 rfl; have c4 := A.out.at 4 rfl; have c5 := A.out.at 5 rfl; clear hb) | (go_at_call_of 77 b2; refine (allFin_any _ _ _ (R.out _ Bw.out).G).mono ?_; rw [B2]; rintro e w' ⟨rfl, hb⟩; have Bw := Lib.hid (below_step Bw.out hb); have A := Lib.hid (A.out.kept hb); have c0 := A.out.at 0 rfl; have c1 := A.out.at 1 rfl; have c2 := A.out.at 2 rfl; have c3 := A.out.at 3 rfl; have c4 := A.out.at 4 rfl; have c5 := A.out.at 5 rfl; clear hb))
        go_ret
        exact ⟨ret_b (by simp), Bw.out⟩
      · skip
        go_enter Try.func60, Try.ntmps60
        go_wp2_with fail
        refine (extentOf_any _ _ _ _ _ _ _).mono ?_
        rintro e w1 ⟨rfl, hb⟩
        have Bw := Lib.hid (below_step Bw.out hb); have A := Lib.hid (A.out.kept hb); have c0 := A.out.at 0 rfl; have c1 := A.out.at 1 rfl; have c2 := A.out.at 2 rfl; have c3 := A.out.at 3 rfl; have c4 := A.out.at 4 rfl; have c5 := A.out.at 5 rfl; clear hb
        go_wp2_with fail
        refine (isExtent_any _ _ _).mono ?_
        rw [exB HXY.out]
        rintro e w2 ⟨rfl, hb⟩
        clear c0 c1 c2 c3 c4 c5
        have Bw := Lib.hid (below_step Bw.out hb); have A := Lib.hid (A.out.kept hb); have c0 := A.out.at 0 rfl; have c1 := A.out.at 1 rfl; have c2 := A.out.at 2 rfl; have c3 := A.out.at 3 rfl; have c4 := A.out.at 4 rfl; have c5 := A.out.at 5 rfl; clear hb
        go_wp2_with fail
        refine (countOf_any _ _ n _ _ _ _ _ HN.out N9.out).mono ?_
        rintro e w3 ⟨rfl, hb⟩
        clear c0 c1 c2 c3 c4 c5
        have Bw := Lib.hid (below_step Bw.out hb); have A := Lib.hid (A.out.kept hb); have c0 := A.out.at 0 rfl; have c1 := A.out.at 1 rfl; have c2 := A.out.at 2 rfl; have c3 := A.out.at 3 rfl; have c4 := A.out.at 4 rfl; have c5 := A.out.at 5 rfl; clear hb
        go_wp2_with (first | (go_at_call_of 77 b0; refine (allFin_any _ _ _ (R.out _ Bw.out).W).mono ?_; rw [B0]; rintro e w' ⟨rfl, hb⟩; have Bw := Lib.hid (below_step Bw.out hb); have A := Lib.hid (A.out.kept hb); have c0 := A.out.at 0 rfl; have c1 := A.out.at 1 rfl; have c2 := A.out.at 2 rfl; have c3 := A.out.at 3 rfl; have c4 := A.out.at 4 rfl; have c5 := A.out.at 5 rfl; clear hb) | (go_at_call_of 77 b1; refine (allPos_any _ _ _ (R.out _ Bw.out).E).mono ?_; rw [B1]; rintro e w' ⟨rfl, hb⟩; have Bw := Lib.hid (below_step Bw.out hb); have A := Lib.hid (A.out.kept hb); have c0 := A.out.at 0 rfl; have c1 := A.out.at 1 rfl; have c2 := A.out.at 2 rfl; have c3 := A.out.at 3 rfl; have c4 := A.out.at 4 rfl; have c5 := A.out.at 5 rfl; clear hb) | (go_at_call_of 77 b2; refine (allFin_any _ _ _ (R.out _ Bw.out).G).mono ?_; rw [B2]; rintro e w' ⟨rfl, hb⟩; have Bw := Lib.hid (below_step Bw.out hb); have A := Lib.hid (A.out.kept hb); have c0 := A.out.at 0 rfl; have c1 := A.out.at 1 rfl; have c2 := A.out.at 2 rfl; have c3 := A.out.at 3 rfl; have c4 := A.out.at 4 rfl; have c5 := A.out.at 5 rfl; clear hb))
        go_ret
        exact ⟨ret_b (by simp), Bw.out⟩

theorem implPl_any (a b c d : Value) (r : PL) (w : World) (h : PRow w a b c d r) : Calls Try.prog 60 #[.agg #[.int .i64 r.X, .int .i64 r.Y, a, b, c, d]] w (BolB (vPl r) w) := by
  cases hx : exX r
  · rw [vPl_no (hPl_x hx)]; exact implPl_x a b c d r w h (by rw [hx]; rfl)
  · cases hy : exY r
    · rw [vPl_no (hPl_y hy)]; exact implPl_x a b c d r w h (by rw [hy]; simp)
    · cases hl : lenP r
      · rw [vPl_no (hPl_l hl)]; exact implPl_l a b c d r w h hx hy hl
      · exact implPl_ok a b c d r w h (by unfold hPl; rw [hx, hy, hl]; rfl)

end Go.Proofs.Ythfkmcpajookaaa

/- A slice of integers, as a list; and one that a call makes itself, and appends to. -/
namespace Go.Proofs.Ythfkmcpajookaaa
open Go.RowKit
set_option linter.unusedVariables false

/-- the value v reads as the list zs of numbers: empty, or a row of cells -/
def JRow (w : World) (v : Value) (zs : List Int) : Prop :=
  ((∃ a c, v = .slice a 0 c) ∧ zs = []) ∨
  ∃ b off cap, v = .slice (some ⟨b, off, none⟩) zs.length cap ∧ zs.length ≤ maxLen ∧ ∀ i, i < zs.length → w.cell? ⟨b, off + i, none⟩ = some (.int .i64 (zs.getD i 0))

theorem JRow.below {w w' : World} {v : Value} {zs : List Int} (h : JRow w v zs) (hb : Below w.heap.size w w') : JRow w' v zs := by
  rcases h with h | ⟨b, off, cap, e, hm, hc⟩
  · exact .inl h
  · refine .inr ⟨b, off, cap, e, hm, fun i hi => ?_⟩
    have := hc i hi
    rw [hb.cell (p := ⟨b, off + i, none⟩) (cell_lt this)]
    exact this

theorem JRow.drewN {w : World} {v : Value} {zs : List Int} {n : Nat} (h : JRow w v zs) : JRow (w.drewN n) v zs := h


/-- how long a slice is -/
theorem JRow.shape {w : World} {v : Value} {zs : List Int} (h : JRow w v zs) : ∃ a cap, v = .slice a zs.length cap := by
  rcases h with ⟨h, rfl⟩ | ⟨b, off, cap, rfl, _⟩
  · exact h
  · exact ⟨_, _, rfl⟩

abbrev slj (p : Nat) (zs : List Int) : Value := .slice (some ⟨p, 0, none⟩) zs.length zs.length
def flj (zs : List Int) : List Value := zs.map (.int .i64)
theorem JRow.of_cells {w : World} {p : Nat} {zs : List Int} (h : Cells w p (flj zs)) (hm : zs.length ≤ maxLen) : JRow w (slj p zs) zs :=
  .inr ⟨p, 0, _, rfl, hm, fun i hi => by rw [Nat.zero_add]; exact h.1 i _ (by simp [flj, hi, List.getD_eq_getElem?_getD])⟩

theorem JRow.cells {w : World} {v : Value} {zs : List Int} (h : JRow w v zs) (hn : 1 ≤ zs.length) : ∃ b off cap, v = .slice (some ⟨b, off, none⟩) zs.length cap ∧ ∀ i, i < zs.length → w.cell? ⟨b, off + i, none⟩ = some (.int .i64 (zs.getD i 0)) := by
  rcases h with ⟨_, rfl⟩ | ⟨b, off, cap, e, hm, hc⟩
  · simp at hn
  · exact ⟨b, off, cap, e, hc⟩

theorem JRow.len {w : World} {v : Value} {zs : List Int} (h : JRow w v zs) : zs.length ≤ 9223372036854775807 := by
  rcases h with ⟨_, rfl⟩ | ⟨_, _, _, _, hm, _⟩
  · simp
  · exact hm

theorem Try.rowOfJ : (Try.prog.info? 2).map (fun i => (i.zero, i.size, i.bytes)) = some (some (.int .i64 0), 1, 8) := by kernel_rfl
theorem infoJ : ∃ i, Try.prog.info? 2 = some i ∧ i.zero = some (.int .i64 0) ∧ i.size = 1 ∧ i.bytes = 8 := by
  have h := Try.rowOfJ
  cases e : Try.prog.info? 2 with
  | none => rw [e] at h; simp at h
  | some i =>
    rw [e] at h
    simp only [Option.map_some, Option.some.injEq, Prod.mk.injEq] at h
    exact ⟨i, rfl, h.1, h.2.1, h.2.2⟩

/-- a slice of the call's own reads as zs -/
def OwnJ (w : World) (base : Nat) (v : Value) (zs : List Int) : Prop := w.ownsRow base 2 1 v zs.length (flj zs)
theorem OwnJ.drewN {w : World} {base : Nat} {v : Value} {zs : List Int} (h : OwnJ w base v zs) (n : Nat) : OwnJ (w.drewN n) base v zs := h
theorem OwnJ.al {w : World} {base : Nat} {v : Value} {zs : List Int} (h : OwnJ w base v zs) (o : Obj) : OwnJ (w.alloc o) base v zs := World.ownsRow.alloc h o
theorem OwnJ.kept {w w' : World} {base : Nat} {v : Value} {zs : List Int} (h : OwnJ w base v zs) (hb : Below w.heap.size w w') : OwnJ w' base v zs := by
  obtain ⟨h1, h2⟩ := h
  refine ⟨h1, ?_⟩
  rcases h2 with h2 | ⟨g, cap, cur, e, hg, hc, h3⟩
  · exact .inl h2
  · refine .inr ⟨g, cap, cur, e, hg, ?_, h3⟩
    have hlt : g < w.heap.size := by
      by_cases hx : g < w.heap.size
      · exact hx
      · rw [Array.getElem?_eq_none (by simpa using hx)] at hc
        cases hc
    rw [hb.block g hlt]
    exact hc
theorem OwnJ.down {w : World} {base b' : Nat} {v : Value} {zs : List Int} (h : OwnJ w base v zs) (hb : b' ≤ base) : OwnJ w b' v zs := by
  obtain ⟨h1, h2⟩ := h
  refine ⟨h1, ?_⟩
  rcases h2 with h2 | ⟨g, cap, cur, e, hg, hc, h3⟩
  · exact .inl h2
  · exact .inr ⟨g, cap, cur, e, Nat.le_trans hb hg, hc, h3⟩
theorem OwnJ.row {w : World} {base : Nat} {v : Value} {zs : List Int} (h : OwnJ w base v zs) (hm : zs.length ≤ 1048576) : JRow w v zs := by
  have h0 := h
  obtain ⟨h1, h2⟩ := h
  have hx : maxLen = 9223372036854775807 := rfl
  rcases h2 with ⟨rfl, hn⟩ | ⟨g, cap, cur, e, hg, hc, h3⟩
  · have : zs = [] := List.length_eq_zero_iff.1 hn
    subst this
    exact .inl ⟨⟨_, _, rfl⟩, rfl⟩
  · refine .inr ⟨g, 0, cap, e, by omega, fun i hi => ?_⟩
    subst e
    rw [Nat.zero_add, World.ownsRow.cellAt h0 i (by omega)]
    simp [flj, hi, List.getD_eq_getElem?_getD]
theorem OwnJ.empty (w : World) (base : Nat) (hb : base ≤ w.heap.size) : OwnJ (w.alloc (.cells #[] 2)) base (.slice (some ⟨w.heap.size, 0, none⟩) 0 0) [] :=
  World.ownsRow_lit (w := w) (base := base) (e := 2) (size := 1) #[] 0 hb (by decide) rfl

theorem wpList_appJ {ops : Array Oper} {rest : List Oper} {o : Oper} {a : Act} {Q : Exit → Act → World → Prop} {w : World} (hgd : o.guard = none) (s x : Operand)
    (ho : o.op = .call { callee := .builtin .append, args := #[s, x], argTypes := #[33, 33] })
    (base : Nat) (v : Value) (zs : List Int) (hs : a.eval s = v) (hown : OwnJ w base v zs) (q c : Nat) (z : Int) (hx : a.eval x = .slice (some ⟨q, 0, none⟩) 1 c) (hq : w.cell? ⟨q, 0, none⟩ = some (.int .i64 z))
    (hk : zs.length ≤ 1048576) (hbase : base ≤ w.heap.size)
    (h : ∀ v' w', OwnJ w' base v' (zs ++ [z]) → Below base w w' → wpList Try.prog ops Q rest (a.put o.dst v') w') : wpList Try.prog ops Q (o :: rest) a w := by
  obtain ⟨i, hi, hz, hsz, hby⟩ := infoJ
  have hm : maxLen = 9223372036854775807 := rfl
  refine wpList_append_own w hgd s x _ ho base 2 i (.int .i64 0) 1 8 Try.underlying33 hi hz hsz hby rfl (by decide) v zs.length (flj zs) hs hown ⟨q, 0, none⟩ 1 c [.int .i64 z] hx rfl (fun j u hj => ?_) (fun u hu => ?_) (by omega) (by omega) hbase (fun v' w' h1 h2 _ => ?_)
  · cases j with
    | zero => simp at hj; subst hj; simpa [Addr.add] using hq
    | succ j => simp at hj
  · simp at hu; subst hu; rfl
  · refine h v' w' ?_ ((Below.refl base w).grown h2 hbase (fun k hk => (World.ownsRow.lt hown k hk).1))
    unfold OwnJ
    simpa [flj] using h1
end Go.Proofs.Ythfkmcpajookaaa

/- A slice of integers, as a list: what it is, and such an argument opened. -/
namespace Go.Proofs.Ythfkmcpajookaaa
open Go.RowKit

/-- the value v reads as the list zs of integers: empty, or a row of cells -/
def IRow (ik : IntKind) (w : World) (v : Value) (zs : List Int) : Prop :=
  ((∃ a c, v = .slice a 0 c) ∧ zs = []) ∨
  ∃ b off cap, v = .slice (some ⟨b, off, none⟩) zs.length cap ∧ zs.length ≤ maxLen ∧ ∀ i, i < zs.length → w.cell? ⟨b, off + i, none⟩ = some (.int ik (zs.getD i 0))

theorem IRow.below {ik : IntKind} {w w' : World} {v : Value} {zs : List Int} (h : IRow ik w v zs) (hb : Below w.heap.size w w') : IRow ik w' v zs := by
  rcases h with h | ⟨b, off, cap, e, hm, hc⟩
  · exact .inl h
  · refine .inr ⟨b, off, cap, e, hm, fun i hi => ?_⟩
    have := hc i hi
    rw [hb.cell (p := ⟨b, off + i, none⟩) (cell_lt this)]
    exact this
theorem IRow.drewN {ik : IntKind} {w : World} {v : Value} {zs : List Int} {n : Nat} (h : IRow ik w v zs) : IRow ik (w.drewN n) v zs := h
theorem IRow.shape {ik : IntKind} {w : World} {v : Value} {zs : List Int} (h : IRow ik w v zs) : ∃ a cap, v = .slice a zs.length cap := by
  rcases h with ⟨h, rfl⟩ | ⟨b, off, cap, rfl, _⟩
  · exact h
  · exact ⟨_, _, rfl⟩
theorem IRow.len {ik : IntKind} {w : World} {v : Value} {zs : List Int} (h : IRow ik w v zs) : zs.length ≤ 9223372036854775807 := by
  rcases h with ⟨_, rfl⟩ | ⟨_, _, _, _, hm, _⟩
  · simp
  · exact hm
theorem IRow.cells {ik : IntKind} {w : World} {v : Value} {zs : List Int} (h : IRow ik w v zs) (hn : 1 ≤ zs.length) : ∃ b off cap, v = .slice (some ⟨b, off, none⟩) zs.length cap ∧ ∀ i, i < zs.length → w.cell? ⟨b, off + i, none⟩ = some (.int ik (zs.getD i 0)) := by
  rcases h with ⟨_, rfl⟩ | ⟨b, off, cap, e, hm, hc⟩
  · simp at hn
  · exact ⟨b, off, cap, e, hc⟩

/-- an argument that is a slice of integers -/
theorem open_irow {H : Type} {enc : TypeId × Value → H} {P : Program} {w : World} {base : Nat} {spare : Nat → Bool} {held : Bool} {t e : TypeId} {k : IntKind} {a : Option Addr} {len cap : Nat} {d : DataW H} {ps : List MemPlace}
    (ht : P.underlying t = some (.slice e)) (he : P.underlying e = some (.int k)) (hc : P.cellsOf e = 1) (h : DataW.Trod enc P w base spare held t (.slice a len cap) d ps) :
    ∃ zs, IRow k w (.slice a len cap) zs ∧ ∀ i, i < zs.length → (Lit.int k (zs.getD i 0)).wf = true := by
  obtain ⟨fuel, hf⟩ := h
  rcases Deep.open_slice1 ht hc hf with ⟨hcs, _⟩ | ⟨x, l, c, m, n, V, D, Pl, hcs, _, hl, hm, hmm, _, hV⟩
  · simp [Value.cells] at hcs
    obtain ⟨rfl, rfl, rfl⟩ := hcs
    exact ⟨[], .inl ⟨⟨_, _, rfl⟩, rfl⟩, fun i hi => by simp at hi⟩
  · simp [Value.cells] at hcs
    obtain ⟨rfl, rfl, rfl⟩ := hcs
    have hlm : len ≤ m := by rw [hmm]; split <;> omega
    have hb : ∀ i, i < len → ∃ b, V i = .int k b ∧ (Lit.int k b).wf = true := by
      intro i hi
      have h2 := (hV i (by omega)).2
      cases n with
      | zero => simp [DataW.trod] at h2
      | succ n =>
        cases hv : V i <;> simp [DataW.trod, he, hv] at h2
        rename_i k' b
        obtain ⟨⟨rfl, hw⟩, _⟩ := h2
        exact ⟨b, rfl, hw⟩
    obtain ⟨B, hB⟩ := Deep.choose_lt hb
    refine ⟨(List.range len).map B, ?_, fun i hi => ?_⟩
    · by_cases h0 : len = 0
      · subst h0; exact .inl ⟨⟨_, _, rfl⟩, rfl⟩
      · obtain ⟨xb, xo, xs⟩ := x
        have hs : xs = none := by simpa [Addr.add] using World.cell?_spot (hV 0 (by omega)).1
        subst hs
        refine .inr ⟨xb, xo, cap, by simp, by simp; omega, fun i hi => ?_⟩
        have hi' : i < len := by simpa using hi
        have := (hV i (by omega)).1
        rw [(hB i hi').1] at this
        have ea : (⟨xb, xo, none⟩ : Addr).add i = ⟨xb, xo + i, none⟩ := by
          by_cases h : i = 0
          · subst h; simp [Addr.add]
          · simp [Addr.add, h]
        rw [ea] at this
        simpa [hi', List.getD_eq_getElem?_getD] using this
    · have hi' : i < len := by simpa using hi
      simpa [hi', List.getD_eq_getElem?_getD] using (hB i hi').2

/-- a byte that a list holds -/
def Bytes (zs : List Int) : Prop := ∀ i, i < zs.length → 0 ≤ zs.getD i 0 ∧ zs.getD i 0 ≤ 255
theorem bytes_of {zs : List Int} (h : ∀ i, i < zs.length → (Lit.int .u8 (zs.getD i 0)).wf = true) : Bytes zs := by
  intro i hi
  have := h i hi
  simp only [Lit.wf, Bool.and_eq_true, decide_eq_true_eq] at this
  have e1 : IntKind.min .u8 = 0 := by decide
  have e2 : IntKind.max .u8 = 255 := by decide
  rw [e1, e2] at this
  exact this
end Go.Proofs.Ythfkmcpajookaaa

/- Lists of integers: copies in blocks of their own, and the laws' comparison. -/
namespace Go.Proofs.Ythfkmcpajookaaa
open Go.RowKit
set_option linter.unusedVariables false

def partJ (zs : List Int) (k i : Nat) : Value := .int .i64 (if i < k then zs.getD i 0 else 0)
theorem row_of_partJ {wr : World} {b : Nat} {zs : List Int} (h : wr.rowIs b 2 zs.length (partJ zs zs.length)) (hm : zs.length ≤ maxLen) : JRow wr (.slice (some ⟨b, 0, none⟩) zs.length zs.length) zs := by
  refine .inr ⟨b, 0, _, rfl, hm, fun i hi => ?_⟩
  have := h.cell hi
  rw [Nat.zero_add, this]
  simp [partJ, hi]
def NewJ (zs : List Int) (w : World) (e : Ending) (w' : World) : Prop :=
  e = .returned (.slice (some ⟨w.heap.size, 0, none⟩) zs.length zs.length) ∧ JRow w' (.slice (some ⟨w.heap.size, 0, none⟩) zs.length zs.length) zs ∧ Below w.heap.size w w' ∧ Cells w' w.heap.size (zs.map (.int .i64))
theorem cells_of_partJ {wr : World} {b : Nat} {zs : List Int} (h : wr.rowIs b 2 zs.length (partJ zs zs.length)) (hb : b < wr.heap.size) : Cells wr b (zs.map (.int .i64)) := by
  refine ⟨fun i v hv => ?_, fun i => h.frozen i, hb⟩
  have hi : i < zs.length := by
    have := (List.getElem?_eq_some_iff.1 hv).1
    simpa using this
  rw [h.cell hi]
  simp [hi] at hv
  simp [partJ, hi, hv, List.getD_eq_getElem?_getD]

set_option maxHeartbeats 800000 in
theorem toJ_new (v : Value) (zs : List Int) (w : World) (h : JRow w v zs) (hl : zs.length ≤ 1048576) :
    Calls Try.prog 18 #[v] w (NewJ zs w) := by
  rcases h with ⟨⟨a0, c0, rfl⟩, rfl⟩ | ⟨b, off, cap, rfl, hm, hc⟩
  · have hmk : ∀ w, (Instr.makeSlice 33 (.int .i64 0) (.int .i64 0)).run Try.prog w = .ok (.slice (some ⟨w.heap.size, 0, none⟩) 0 0) (w.alloc (.cells (madeCells #[.int .i64 0] 0) 2)) := run_make_row' (P := Try.prog) 33 2 (.int .i64 0) 8 Try.underlying33 Try.rowOfJ rfl .i64 .i64 0 (by omega) (by omega)
    go_enter Try.func18, Try.ntmps18
    go_wp2
    go_loopw [4] (fun i wr => i = .int .i64 0 ∧ wr = w.alloc (.cells (madeCells #[.int .i64 0] 0) 2)) (fun i _ => 0)
    case atStart => exact ⟨rfl, rfl⟩
    case round =>
      obtain ⟨rfl, rfl⟩ := hrel
      go_wp2
      go_ret
      exact ⟨rfl, .inl ⟨⟨_, _, rfl⟩, rfl⟩, (Below.refl _ _).alloc (Nat.le_refl _) _, fun i v hv => by simp at hv, fun i => by simp, by simp⟩
  · generalize hn : zs.length = n at *
    have Hn := Lib.hid hn
    clear hn
    have hmk := run_make_row' (P := Try.prog) 33 2 (.int .i64 0) 8 Try.underlying33 Try.rowOfJ rfl .i64 .i64 n (by omega) (by omega)
    go_enter Try.func18, Try.ntmps18
    go_wp2
    go_loopw [4] (fun i wr => ∃ k : Nat, k ≤ n ∧ i = .int .i64 k ∧ Below w.heap.size w wr ∧ wr.rowIs w.heap.size 2 n (partJ zs k)) (fun i _ => n - (intOf i).toNat)
    case atStart => exact ⟨0, Nat.zero_le _, rfl, (Below.refl _ _).alloc (Nat.le_refl _) _, (World.rowIs_made w (.int .i64 0) n 2).congr (fun i _ => by simp [partJ])⟩
    case round =>
      obtain ⟨k, hk, rfl, hb, hr⟩ := hrel
      by_cases hlt : k < n
      · have h1 := hc k hlt
        have h2 : wr.cell? ⟨b, off + k, none⟩ = some (.int .i64 (zs.getD k 0)) := by rw [hb.cell (p := ⟨b, off + k, none⟩) (cell_lt h1)]; exact h1
        have h3 : wr.cell? ⟨w.heap.size, k, none⟩ = some (partJ zs k k) := hr.cell hlt
        have h4 : wr.frozen? ⟨w.heap.size, k, none⟩ = false := hr.frozen k
        have hr' := Lib.hid (hr.set k (.int .i64 (zs.getD k 0)))
        have hb' := Lib.hid (hb.setCell (p := ⟨w.heap.size, k, none⟩) (Nat.le_refl _) (.int .i64 (zs.getD k 0)))
        clear hmk hc h1 hb hr
        go_wp2
        go_roundw
        case rel =>
          refine ⟨k + 1, by omega, by go_num, by simpa using hb'.out, ?_⟩
          have := hr'.out
          refine World.rowIs.congr (by simpa using this) (fun i _ => ?_)
          simp only [partJ]
          by_cases e : i = k
          · subst e; simp
          · rw [if_neg e]
            by_cases h : i < k
            · rw [if_pos h, if_pos (by omega)]
            · rw [if_neg h, if_neg (by omega)]
        case measure => simp [intOf]; omega
      · have e : k = n := by omega
        have hr' := Lib.hid hr
        have hb' := Lib.hid (And.intro hb hr.lt)
        have He := Lib.hid e
        clear hmk hc hb hr e
        go_wp2
        go_ret
        have hr := hr'.out
        have hz := Hn.out
        have := He.out
        subst this
        subst hz
        exact ⟨rfl, row_of_partJ hr hm, hb'.out.1, cells_of_partJ hr hb'.out.2⟩

/-- a new row of integers -/
def NewJR (zs : List Int) (w : World) (e : Ending) (w' : World) : Prop := ∃ v, e = .returned v ∧ JRow w' v zs ∧ Below w.heap.size w w'
theorem toJ_any (v : Value) (zs : List Int) (w : World) (h : JRow w v zs) (hl : zs.length ≤ 1048576) : Calls Try.prog 18 #[v] w (NewJR zs w) :=
  (toJ_new v zs w h hl).mono fun _ _ ⟨he, hf, hb, _⟩ => ⟨_, he, hf, hb⟩

/-- two slices of integers that are the same -/
theorem eqJJ_any (v v' : Value) (zs : List Int) (w : World) (h : JRow w v zs) (h' : JRow w v' zs) : Calls Try.prog 20 #[v, v'] w (Yes w) := by
  have HC := Lib.hid (fun (hn : 1 ≤ zs.length) => h.cells hn)
  have HC' := Lib.hid (fun (hn : 1 ≤ zs.length) => h'.cells hn)
  have HL := Lib.hid h.len
  obtain ⟨a, cap, rfl⟩ := h.shape
  obtain ⟨a', cap', rfl⟩ := h'.shape
  clear h h'
  generalize zs.length = n at *
  go_enter Try.func20, Try.ntmps20
  go_wp2
  go_loopw [5] (fun i wr => ∃ k q : Nat, k ≤ n ∧ i = .int .i64 k ∧ wr = w.drewN q) (fun i _ => n - (intOf i).toNat)
  case atStart => exact ⟨0, 0, Nat.zero_le _, rfl, rfl⟩
  case round =>
    obtain ⟨k, q, hk, rfl, rfl⟩ := hrel
    have hG := HL.out
    by_cases hlt : k < n
    · obtain ⟨b0, o0, c0, e, hc⟩ := HC.out (by omega)
      obtain ⟨b1, o1, c1, e', hc'⟩ := HC'.out (by omega)
      have ea : a = some ⟨b0, o0, none⟩ := by cases e; rfl
      have ea' : a' = some ⟨b1, o1, none⟩ := by cases e'; rfl
      have z0 := hc k hlt
      have z1 := hc' k hlt
      clear e hc e' hc' HC HC'
      subst ea
      subst ea'
      generalize zs.getD k 0 = y at *
      have hi : (0 : Int) ≤ (k : Int) := by omega
      have hi' : (k : Int) < (n : Int) := by omega
      go_wp2
      refine wp_region_loose (fun _ _ _ => True) (by kernel_rfl) (by kernel_rfl) ?_
      repeat (first | (refine wpLoose_farith rfl _ _ _ _ _ rfl rfl _ _ _ rfl rfl ?_; intro _ _) | (refine wpLoose_valK rfl ?_ (fun w1 hw1 => ?_) (fun K hK => ?_); rotate_left; (focus (obtain ⟨nq, rfl⟩ := hw1; go_simp; first | done | rfl)); go_simp; refine hK _ ?_; clear hK K))
      (refine wpLoose_nil ?_; rintro _ ⟨nq, rfl⟩)
      go_wp2
      go_roundw
      case rel => exact ⟨k + 1, _, by omega, by go_num, rfl⟩
      case measure => simp [intOf]; omega
    · go_wp2
      go_ret
      exact Yes.drewN
end Go.Proofs.Ythfkmcpajookaaa

/- Only one block has turned; the laws' marks as numbers. -/
namespace Go.Proofs.Ythfkmcpajookaaa
open Go.RowKit
set_option linter.unusedVariables false

/-- only block g has turned -/
structure Onl (g : Nat) (w w' : World) : Prop where
  os : w'.os = w.os
  tape : w'.tape = w.tape
  output : w'.output = w.output
  size : w'.heap.size = w.heap.size
  block : ∀ k, k ≠ g → w'.heap[k]? = w.heap[k]?
theorem Onl.refl (g : Nat) (w : World) : Onl g w w := ⟨rfl, rfl, rfl, rfl, fun _ _ => rfl⟩
theorem Onl.trans {g : Nat} {a b c : World} (h : Onl g a b) (k : Onl g b c) : Onl g a c :=
  ⟨k.os.trans h.os, k.tape.trans h.tape, k.output.trans h.output, k.size.trans h.size, fun j hj => (k.block j hj).trans (h.block j hj)⟩
theorem Onl.setCell {g : Nat} {a w : World} (h : Onl g a w) (i : Nat) (u : Value) : Onl g a (w.setCell ⟨g, i, none⟩ u) := by
  have hb := (Below.refl 0 w).setCell (p := ⟨g, i, none⟩) (Nat.zero_le _) u
  exact ⟨hb.os.trans h.os, hb.tape.trans h.tape, hb.output.trans h.output, (World.size_setCell ..).trans h.size, fun k hk => (Below.heap_setCell w ⟨g, i, none⟩ u k hk).trans (h.block k hk)⟩
theorem Onl.drewN {g n : Nat} {a w : World} (h : Onl g a w) : Onl g a (w.drewN n) := ⟨h.os, h.tape, h.output, h.size, h.block⟩
theorem Onl.below {g B : Nat} {a w : World} (h : Onl g a w) (hB : B ≤ g) : Below B a w :=
  ⟨h.os, h.tape, h.output, Nat.le_of_eq h.size.symm, fun k hk => h.block k (by omega)⟩

/-- the number k, as a 32-bit number -/
def fb (k : Nat) : Nat := floatOfInt .f32 (k : Int)
theorem fb_self (k : Nat) (h : k < 500) : (FloatKind.f32.format.order (fb k) (fb k) == some .eq) = true := by
  have : ∀ k, k < 500 → (FloatKind.f32.format.order (fb k) (fb k) == some .eq) = true := by decide +kernel
  exact this k h
theorem rowIs_below {w w' : World} {b n : Nat} {t : TypeId} {f : Nat → Value} (h : w.rowIs b t n f) (hb : Below w.heap.size w w') : w'.rowIs b t n f := by
  have hl := h.lt
  unfold World.rowIs at *
  rw [hb.block b hl]
  exact h
theorem rowIs_far {w : World} {b n q i : Nat} {t : TypeId} {f : Nat → Value} {u : Value} (h : w.rowIs b t n f) (hq : b ≠ q) : (w.setCell ⟨q, i, none⟩ u).rowIs b t n f := by
  unfold World.rowIs at *
  rw [Below.heap_setCell w ⟨q, i, none⟩ u b hq]
  exact h

/-- of what was there, only blocks in S have turned -/
structure Tur (S : Nat → Prop) (w w' : World) : Prop where
  os : w'.os = w.os
  tape : w'.tape = w.tape
  output : w'.output = w.output
  size : w.heap.size ≤ w'.heap.size
  block : ∀ k, k < w.heap.size → ¬ S k → w'.heap[k]? = w.heap[k]?
theorem Tur.trans {S : Nat → Prop} {a b c : World} (h : Tur S a b) (k : Tur S b c) : Tur S a c :=
  ⟨k.os.trans h.os, k.tape.trans h.tape, k.output.trans h.output, Nat.le_trans h.size k.size, fun j hj hs => (k.block j (Nat.lt_of_lt_of_le hj h.size) hs).trans (h.block j hj hs)⟩
theorem Tur.of_below {S : Nat → Prop} {w w' : World} (h : Below w.heap.size w w') : Tur S w w' := ⟨h.os, h.tape, h.output, h.size, fun k hk _ => h.block k hk⟩
theorem Tur.of_onl {S : Nat → Prop} {g : Nat} {w w' : World} (h : Onl g w w') (hg : S g) : Tur S w w' :=
  ⟨h.os, h.tape, h.output, Nat.le_of_eq h.size.symm, fun k _ hs => h.block k (fun e => hs (by rw [e]; exact hg))⟩
theorem Tur.below {S : Nat → Prop} {B : Nat} {w w' : World} (h : Tur S w w') (hB : ∀ k, S k → B ≤ k) (hs : B ≤ w.heap.size) : Below B w w' :=
  ⟨h.os, h.tape, h.output, h.size, fun k hk => h.block k (by omega) (fun hS => by have := hB k hS; omega)⟩
theorem Tur.cells {S : Nat → Prop} {w w' : World} {p : Nat} {vs : List Value} (h : Tur S w w') (hc : Cells w p vs) (hp : ¬ S p) : Cells w' p vs :=
  ⟨fun i v hv => (World.cell?_of_block (w := w) (h.block p hc.lt hp)).trans (hc.1 i v hv), fun i => (World.frozen?_of_block (w := w) (h.block p hc.lt hp)).trans (hc.2.1 i), Nat.lt_of_lt_of_le hc.lt h.size⟩
theorem Tur.row {S : Nat → Prop} {w w' : World} {b n : Nat} {t : TypeId} {f : Nat → Value} (h : Tur S w w') (hr : w.rowIs b t n f) (hb : ¬ S b) : w'.rowIs b t n f := by
  have hl := hr.lt
  unfold World.rowIs at *
  rw [h.block b hl hb]
  exact hr

end Go.Proofs.Ythfkmcpajookaaa

/- A slice of 32-bit numbers that a call makes itself, and appends to. -/
namespace Go.Proofs.Ythfkmcpajookaaa
open Go.RowKit
set_option linter.unusedVariables false

theorem info32 : ∃ i, Try.prog.info? 22 = some i ∧ i.zero = some (.float .f32 0) ∧ i.size = 1 ∧ i.bytes = 4 := by
  have h := Try.rowOf32
  cases e : Try.prog.info? 22 with
  | none => rw [e] at h; simp at h
  | some i =>
    rw [e] at h
    simp only [Option.map_some, Option.some.injEq, Prod.mk.injEq] at h
    exact ⟨i, rfl, h.1, h.2.1, h.2.2⟩

/-- a slice of the call's own reads as zs -/
def Own (w : World) (base : Nat) (v : Value) (zs : List Nat) : Prop := w.ownsRow base 22 1 v zs.length (fl zs)
theorem Own.drewN {w : World} {base : Nat} {v : Value} {zs : List Nat} (h : Own w base v zs) (n : Nat) : Own (w.drewN n) base v zs := h
theorem Own.al {w : World} {base : Nat} {v : Value} {zs : List Nat} (h : Own w base v zs) (o : Obj) : Own (w.alloc o) base v zs := World.ownsRow.alloc h o
theorem Own.kept {w w' : World} {base : Nat} {v : Value} {zs : List Nat} (h : Own w base v zs) (hb : Below w.heap.size w w') : Own w' base v zs := by
  obtain ⟨h1, h2⟩ := h
  refine ⟨h1, ?_⟩
  rcases h2 with h2 | ⟨g, cap, cur, e, hg, hc, h3⟩
  · exact .inl h2
  · refine .inr ⟨g, cap, cur, e, hg, ?_, h3⟩
    have hlt : g < w.heap.size := by
      by_cases hx : g < w.heap.size
      · exact hx
      · rw [Array.getElem?_eq_none (by simpa using hx)] at hc
        cases hc
    rw [hb.block g hlt]
    exact hc
theorem Own.row {w : World} {base : Nat} {v : Value} {zs : List Nat} (h : Own w base v zs) (hm : zs.length ≤ 1048576) : FRow w v zs := by
  have h0 := h
  obtain ⟨h1, h2⟩ := h
  have hx : maxLen = 9223372036854775807 := rfl
  rcases h2 with ⟨rfl, hn⟩ | ⟨g, cap, cur, e, hg, hc, h3⟩
  · have : zs = [] := List.length_eq_zero_iff.1 hn
    subst this
    exact .inl ⟨⟨_, _, rfl⟩, rfl⟩
  · refine .inr ⟨g, 0, cap, e, by omega, fun i hi => ?_⟩
    subst e
    rw [Nat.zero_add, World.ownsRow.cellAt h0 i (by omega)]
    simp [fl, hi, List.getD_eq_getElem?_getD]
theorem Own.empty (w : World) (base : Nat) (hb : base ≤ w.heap.size) : Own (w.alloc (.cells #[] 22)) base (.slice (some ⟨w.heap.size, 0, none⟩) 0 0) [] :=
  World.ownsRow_lit (w := w) (base := base) (e := 22) (size := 1) #[] 0 hb (by decide) rfl

theorem wpList_app32 {ops : Array Oper} {rest : List Oper} {o : Oper} {a : Act} {Q : Exit → Act → World → Prop} {w : World} (hgd : o.guard = none) (s x : Operand)
    (ho : o.op = .call { callee := .builtin .append, args := #[s, x], argTypes := #[23, 23] })
    (base : Nat) (v : Value) (zs : List Nat) (hs : a.eval s = v) (hown : Own w base v zs) (q z c : Nat) (hx : a.eval x = .slice (some ⟨q, 0, none⟩) 1 c) (hq : w.cell? ⟨q, 0, none⟩ = some (.float .f32 z))
    (hk : zs.length ≤ 1048576) (hbase : base ≤ w.heap.size)
    (h : ∀ v' w', Own w' base v' (zs ++ [z]) → Below base w w' → wpList Try.prog ops Q rest (a.put o.dst v') w') : wpList Try.prog ops Q (o :: rest) a w := by
  obtain ⟨i, hi, hz, hsz, hby⟩ := info32
  have hm : maxLen = 9223372036854775807 := rfl
  refine wpList_append_own w hgd s x _ ho base 22 i (.float .f32 0) 1 4 Try.underlying23 hi hz hsz hby rfl (by decide) v zs.length (fl zs) hs hown ⟨q, 0, none⟩ 1 c [.float .f32 z] hx rfl (fun j u hj => ?_) (fun u hu => ?_) (by omega) (by omega) hbase (fun v' w' h1 h2 _ => ?_)
  · cases j with
    | zero => simp at hj; subst hj; simpa [Addr.add] using hq
    | succ j => simp at hj
  · simp at hu; subst hu; rfl
  · refine h v' w' ?_ ((Below.refl base w).grown h2 hbase (fun k hk => (World.ownsRow.lt hown k hk).1))
    unfold Own
    simpa [fl] using h1
end Go.Proofs.Ythfkmcpajookaaa

/- Slices of bools that a call makes itself. -/
namespace Go.Proofs.Ythfkmcpajookaaa
open Go.RowKit
set_option linter.unusedVariables false

theorem infoB : ∃ i, Try.prog.info? 4 = some i ∧ i.zero = some (.bool false) ∧ i.size = 1 ∧ i.bytes = 1 := by
  have h := Try.rowOfB
  cases e : Try.prog.info? 4 with
  | none => rw [e] at h; simp at h
  | some i =>
    rw [e] at h
    simp only [Option.map_some, Option.some.injEq, Prod.mk.injEq] at h
    exact ⟨i, rfl, h.1, h.2.1, h.2.2⟩
/-- a slice of the call's own reads as zs -/
def OwnB (w : World) (base : Nat) (v : Value) (zs : List Bool) : Prop := w.ownsRow base 4 1 v zs.length (flb zs)
theorem OwnB.drewN {w : World} {base : Nat} {v : Value} {zs : List Bool} (h : OwnB w base v zs) (n : Nat) : OwnB (w.drewN n) base v zs := h
theorem OwnB.al {w : World} {base : Nat} {v : Value} {zs : List Bool} (h : OwnB w base v zs) (o : Obj) : OwnB (w.alloc o) base v zs := World.ownsRow.alloc h o
theorem OwnB.kept {w w' : World} {base : Nat} {v : Value} {zs : List Bool} (h : OwnB w base v zs) (hb : Below w.heap.size w w') : OwnB w' base v zs := by
  obtain ⟨h1, h2⟩ := h
  refine ⟨h1, ?_⟩
  rcases h2 with h2 | ⟨g, cap, cur, e, hg, hc, h3⟩
  · exact .inl h2
  · refine .inr ⟨g, cap, cur, e, hg, ?_, h3⟩
    have hlt : g < w.heap.size := by
      by_cases hx : g < w.heap.size
      · exact hx
      · rw [Array.getElem?_eq_none (by simpa using hx)] at hc
        cases hc
    rw [hb.block g hlt]
    exact hc
theorem OwnB.empty (w : World) (base : Nat) (hb : base ≤ w.heap.size) : OwnB (w.alloc (.cells #[] 4)) base (.slice (some ⟨w.heap.size, 0, none⟩) 0 0) [] :=
  World.ownsRow_lit (w := w) (base := base) (e := 4) (size := 1) #[] 0 hb (by decide) rfl

/-- a whole list appended -/
theorem wpList_catB {ops : Array Oper} {rest : List Oper} {o : Oper} {a : Act} {Q : Exit → Act → World → Prop} {w : World} (hgd : o.guard = none) (s x : Operand)
    (ho : o.op = .call { callee := .builtin .append, args := #[s, x], argTypes := #[24, 24] })
    (base : Nat) (v : Value) (zs ys : List Bool) (hs : a.eval s = v) (hown : OwnB w base v zs) (q off c : Nat) (hx : a.eval x = .slice (some ⟨q, off, none⟩) ys.length c) (hq : ∀ i, i < ys.length → w.cell? ⟨q, off + i, none⟩ = some (.bool (ys.getD i false)))
    (hk : zs.length ≤ 1048576) (hk2 : ys.length ≤ 1048576) (hbase : base ≤ w.heap.size)
    (h : ∀ v' w', OwnB w' base v' (zs ++ ys) → Below base w w' → wpList Try.prog ops Q rest (a.put o.dst v') w') : wpList Try.prog ops Q (o :: rest) a w := by
  obtain ⟨i, hi, hz, hsz, hby⟩ := infoB
  have hm : maxLen = 9223372036854775807 := rfl
  refine wpList_append_own w hgd s x _ ho base 4 i (.bool false) 1 1 Try.underlying24 hi hz hsz hby rfl (by decide) v zs.length (flb zs) hs hown ⟨q, off, none⟩ ys.length c (flb ys) hx (by simp [flb]) (fun j u hj => ?_) (fun u hu => ?_) (by omega) (by omega) hbase (fun v' w' h1 h2 _ => ?_)
  · have hjl : j < ys.length := by
      by_cases hl : j < ys.length
      · exact hl
      · rw [List.getElem?_eq_none (by simpa [flb] using hl)] at hj
        cases hj
    have e : u = .bool (ys.getD j false) := by
      simp [flb, hjl] at hj
      simp [← hj, List.getD_eq_getElem?_getD, hjl]
    rw [e]
    have h2 := hq j hjl
    by_cases hj0 : j = 0
    · subst hj0
      first | (simp [Addr.add]; done) | simpa [Addr.add] using h2
    · first | (simp [Addr.add, hj0]; done) | simpa [Addr.add, hj0] using h2
  · obtain ⟨z, _, rfl⟩ := List.mem_map.1 hu
    rfl
  · refine h v' w' ?_ ((Below.refl base w).grown h2 hbase (fun k hk => (World.ownsRow.lt hown k hk).1))
    unfold OwnB
    simpa [flb] using h1

theorem cloneB_any (q off c : Nat) (zs : List Bool) (w : World) (hc : ∀ i, i < zs.length → w.cell? ⟨q, off + i, none⟩ = some (.bool (zs.getD i false))) (hl : zs.length ≤ 1048576) :
    Calls Try.prog 80 #[.slice (some ⟨q, off, none⟩) zs.length c] w fun e w' => ∃ v', e = .returned v' ∧ OwnB w' w.heap.size v' zs ∧ Below w.heap.size w w' := by
  have qT : ∀ (w : World) (a : Option Addr) (n c n' c' : Nat), (binOp .eql 24 (.slice a n c) (.slice none n' c')).run Try.prog w = .ok (.bool a.isNone) w := fun w a n c n' c' => Lib.run_eql_slice_nil w _ _ a n c n' c' Try.underlying24
  have HC := Lib.hid (fun w' (hb : Below w.heap.size w w') i (hi : i < zs.length) => (hb.cell (p := ⟨q, off + i, none⟩) (cell_lt (hc i hi))).trans (hc i hi))
  have O0 := Lib.hid (OwnB.empty w w.heap.size (Nat.le_refl _))
  have HL := Lib.hid hl
  clear hc hl
  go_enter Try.func80, Try.ntmps80
  go_wp2_with (at_builtin; refine wpList_catB rfl _ _ rfl w.heap.size _ [] zs rfl O0.out q off c rfl (HC.out _ (below_al1 _ _)) (by simp) HL.out (by simp) ?_; intro v' w1 hown hb; have O1 := Lib.hid hown; have B1 := Lib.hid hb; clear hown hb)
  go_ret
  exact ⟨_, rfl, O1.out, (below_al1 _ _).trans B1.out⟩
end Go.Proofs.Ythfkmcpajookaaa

/- The laws' marks on lists of any length, and lists that a call made: a part of a block of its own. -/
namespace Go.Proofs.Ythfkmcpajookaaa
open Go.RowKit
set_option linter.unusedVariables false

/-- from cell o on, block g holds the numbers zs, and may be written -/
def RowF (w : World) (g o : Nat) (zs : List Nat) : Prop := ∃ c : Array Value, w.heap[g]? = some (.cells c 22 (0, 0)) ∧ ∀ i, i < zs.length → c[o + i]? = some (.float .f32 (zs.getD i 0))
theorem RowF.cell {w : World} {g o i : Nat} {zs : List Nat} (h : RowF w g o zs) (hi : i < zs.length) : w.cell? ⟨g, o + i, none⟩ = some (.float .f32 (zs.getD i 0)) := by
  obtain ⟨c, hb, hc⟩ := h
  simp [World.cell?, hb, hc i hi]
theorem RowF.frozen {w : World} {g o : Nat} {zs : List Nat} (h : RowF w g o zs) (i : Nat) : w.frozen? ⟨g, i, none⟩ = false := by
  obtain ⟨c, hb, _⟩ := h
  simp [World.frozen?, hb]
theorem RowF.lt {w : World} {g o : Nat} {zs : List Nat} (h : RowF w g o zs) : g < w.heap.size := by
  obtain ⟨c, hb, _⟩ := h
  exact (Array.getElem?_eq_some_iff.1 hb).1
theorem RowF.of_block {w w' : World} {g o : Nat} {zs : List Nat} (h : RowF w g o zs) (e : w'.heap[g]? = w.heap[g]?) : RowF w' g o zs := by
  obtain ⟨c, hb, hc⟩ := h
  exact ⟨c, e.trans hb, hc⟩
theorem RowF.set {w : World} {g o : Nat} {zs : List Nat} (h : RowF w g o zs) (j x : Nat) (hj : j < zs.length) : RowF (w.setCell ⟨g, o + j, none⟩ (.float .f32 x)) g o (zs.set j x) := by
  obtain ⟨c, hb, hc⟩ := h
  refine ⟨c.setIfInBounds (o + j) (.float .f32 x), by simp [World.setCell, Array.getElem?_modify, hb], fun i hi => ?_⟩
  have hi' : i < zs.length := by simpa using hi
  rw [Array.getElem?_setIfInBounds]
  by_cases e : i = j
  · subst e
    have hlt : o + i < c.size := (Array.getElem?_eq_some_iff.1 (hc i hi')).1
    simp [hlt, hj, List.getD_eq_getElem?_getD]
  · rw [if_neg (by omega), hc i hi']
    simp [List.getD_eq_getElem?_getD, List.getElem?_set_ne (Ne.symm e)]
theorem RowF.of_row {w : World} {g o N : Nat} {f : Nat → Nat} {zs : List Nat} (h : w.rowIs g 22 N (fun i => .float .f32 (f i))) (ho : o + zs.length ≤ N) (hf : ∀ i, i < zs.length → f (o + i) = zs.getD i 0) : RowF w g o zs := by
  obtain ⟨c, hb, hn, hc⟩ := h
  exact ⟨c, hb, fun i hi => by simpa only [hf i hi] using hc (o + i) (by omega)⟩

theorem markL_any (g o n k c : Nat) (zs : List Nat) (w : World) (hr : RowF w g o zs) (hz : zs.length = n) (hn : n ≤ 1048576) (hk : k ≤ 1048576) :
    Calls Try.prog 40 #[.slice (some ⟨g, o, none⟩) n c, .int .i64 k] w fun e w' => e = .returned (.int .i64 ((k + n : Nat) : Int)) ∧ (∃ ys : List Nat, ys.length = n ∧ (∀ i, i < n → ys.getD i 0 = fb (k + i)) ∧ RowF w' g o ys) ∧ Onl g w w' := by
  have HR : Hid (∃ ys : List Nat, ys.length = n ∧ (∀ i, i < 0 → ys.getD i 0 = fb (k + i)) ∧ RowF w g o ys) := Lib.hid ⟨zs, hz, fun i hi => absurd hi (by omega), hr⟩
  clear hr hz
  go_enter Try.func40, Try.ntmps40
  go_wp2
  go_loopw [1, 5] (fun q i wr => ∃ j : Nat, j ≤ n ∧ i = .int .i64 j ∧ q = .int .i64 ((k + j : Nat) : Int) ∧ Hid (∃ ys : List Nat, ys.length = n ∧ (∀ i, i < j → ys.getD i 0 = fb (k + i)) ∧ RowF wr g o ys) ∧ Hid (Onl g w wr)) (fun _ i _ => n - (intOf i).toNat)
  case atStart => exact ⟨0, Nat.zero_le _, rfl, rfl, HR, Lib.hid (Onl.refl g w)⟩
  case round =>
    obtain ⟨j, hj, rfl, rfl, hrow, hon⟩ := hrel
    by_cases hlt : j < n
    · obtain ⟨ys, hy, hm, C⟩ := hrow.out
      have e3 : wr.cell? ⟨g, o + j, none⟩ = some (.float .f32 (ys.getD j 0)) := C.cell (by omega)
      have e4 : wr.frozen? ⟨g, o + j, none⟩ = false := C.frozen _
      have C := Lib.hid C
      have HY := Lib.hid hy
      have HM := Lib.hid hm
      clear hrow hy hm
      generalize ys.getD j 0 = old at *
      have hi : (0 : Int) ≤ (j : Int) := by omega
      have hi' : (j : Int) < (n : Int) := by omega
      go_wp2
      go_roundw
      case rel =>
        refine ⟨j + 1, by omega, by go_num, by go_num, Lib.hid ⟨ys.set j (fb (k + j)), by simpa using HY.out, fun i hi => ?_, ?_⟩, Lib.hid (Onl.setCell hon.out _ _)⟩
        · by_cases e : i = j
          · subst e
            have := HY.out
            simp [List.getD_eq_getElem?_getD, show i < ys.length by omega]
          · have := HM.out i (by omega)
            rw [← this]
            simp [List.getD_eq_getElem?_getD, List.getElem?_set_ne (Ne.symm e)]
        · have := C.out.set j (fb (k + j)) (by have := HY.out; omega)
          unfold fb at this ⊢
          simpa using this
      case measure => simp [intOf]; omega
    · have e := Lib.hid (show j = n by omega)
      go_wp2
      go_ret
      have := e.out
      subst this
      exact ⟨rfl, hrow.out, hon.out⟩

theorem heldL_any (g o n k c : Nat) (zs : List Nat) (w : World) (hr : RowF w g o zs) (hz : zs.length = n) (hk : k + n ≤ 499) (hf : ∀ i, i < n → zs.getD i 0 = fb (k + i)) :
    Calls Try.prog 42 #[.slice (some ⟨g, o, none⟩) n c, .int .i64 k] w fun e w' => e = .returned (.int .i64 ((k + n : Nat) : Int)) ∧ w = w' := by
  have HC : Hid (∀ i, i < n → w.cell? ⟨g, o + i, none⟩ = some (.float .f32 (fb (k + i)))) := Lib.hid (fun i hi => by rw [hr.cell (by omega), hf i hi])
  clear hr hz hf
  go_enter Try.func42, Try.ntmps42
  go_wp2
  go_loop [1, 5] (fun q i => ∃ j : Nat, j ≤ n ∧ i = .int .i64 j ∧ q = .int .i64 ((k + j : Nat) : Int)) (fun _ i => n - (intOf i).toNat)
  case atStart => exact ⟨0, Nat.zero_le _, rfl, rfl⟩
  case round =>
    obtain ⟨j, hj, rfl, rfl⟩ := hrel
    by_cases hlt : j < n
    · have z0 := HC.out j hlt
      have es := fb_self (k + j) (by omega)
      have en : (FloatKind.f32.format.order (fb (k + j)) (fb (k + j)) != some .eq) = false := by simpa using es
      unfold fb at z0 es en
      rw [Int.natCast_add] at z0 es en
      have hi : (0 : Int) ≤ (j : Int) := by omega
      have hi' : (j : Int) < (n : Int) := by omega
      go_wp2
      go_round
      case rel => exact ⟨j + 1, by omega, by go_num, by go_num⟩
      case measure => simp [intOf]; omega
    · have e := Lib.hid (show j = n by omega)
      go_wp2
      go_ret
      have := e.out
      subst this
      exact ⟨rfl, rfl⟩

theorem mark_mt (a : Option Addr) (c k : Nat) (w : World) (hk : k ≤ 400) : Calls Try.prog 40 #[.slice a 0 c, .int .i64 k] w fun e w' => e = .returned (.int .i64 k) ∧ w = w' := by
  go_enter Try.func40, Try.ntmps40
  go_wp2
  go_loop [1, 5] (fun q i => i = .int .i64 0 ∧ q = .int .i64 k) (fun _ _ => 0)
  case atStart => exact ⟨rfl, rfl⟩
  case round =>
    obtain ⟨rfl, rfl⟩ := hrel
    go_wp2
    go_ret
    exact ⟨rfl, rfl⟩
theorem held_mt (a : Option Addr) (c k : Nat) (w : World) (hk : k ≤ 400) : Calls Try.prog 42 #[.slice a 0 c, .int .i64 k] w fun e w' => e = .returned (.int .i64 k) ∧ w = w' := by
  go_enter Try.func42, Try.ntmps42
  go_wp2
  go_loop [1, 5] (fun q i => i = .int .i64 0 ∧ q = .int .i64 k) (fun _ _ => 0)
  case atStart => exact ⟨rfl, rfl⟩
  case round =>
    obtain ⟨rfl, rfl⟩ := hrel
    go_wp2
    go_ret
    exact ⟨rfl, rfl⟩

/-- the value v is a slice that reads as zs and lies in a block made since h: empty, or a part of such a block -/
def ORow (h : Nat) (w : World) (v : Value) (zs : List Nat) : Prop :=
  ((∃ a c, v = .slice a 0 c) ∧ zs = []) ∨ ∃ g o c, v = .slice (some ⟨g, o, none⟩) zs.length c ∧ h ≤ g ∧ RowF w g o zs

theorem ORow.frow {h : Nat} {w : World} {v : Value} {zs : List Nat} (H : ORow h w v zs) (hm : zs.length ≤ maxLen) : FRow w v zs := by
  rcases H with H | ⟨g, o, c, rfl, _, hr⟩
  · exact .inl H
  · exact .inr ⟨g, o, c, rfl, hm, fun i hi => hr.cell hi⟩
theorem ORow.shape {h : Nat} {w : World} {v : Value} {zs : List Nat} (H : ORow h w v zs) : ∃ a cap, v = .slice a zs.length cap := by
  rcases H with ⟨⟨a, c, rfl⟩, rfl⟩ | ⟨g, o, c, rfl, _⟩
  · exact ⟨_, _, rfl⟩
  · exact ⟨_, _, rfl⟩
theorem ORow.kept {h : Nat} {w w' : World} {v : Value} {zs : List Nat} (H : ORow h w v zs) (hb : Below w.heap.size w w') : ORow h w' v zs := by
  rcases H with H | ⟨g, o, c, rfl, hg, hr⟩
  · exact .inl H
  · exact .inr ⟨g, o, c, rfl, hg, hr.of_block (hb.block g hr.lt)⟩
theorem ORow.far {h p : Nat} {w w' : World} {v : Value} {zs : List Nat} (H : ORow h w v zs) (hb : Onl p w w') (hp : p < h) : ORow h w' v zs := by
  rcases H with H | ⟨g, o, c, rfl, hg, hr⟩
  · exact .inl H
  · exact .inr ⟨g, o, c, rfl, hg, hr.of_block (hb.block g (by omega))⟩
theorem ORow.mono {h h' : Nat} {w : World} {v : Value} {zs : List Nat} (H : ORow h w v zs) (hh : h' ≤ h) : ORow h' w v zs := by
  rcases H with H | ⟨g, o, c, rfl, hg, hr⟩
  · exact .inl H
  · exact .inr ⟨g, o, c, rfl, Nat.le_trans hh hg, hr⟩
theorem ORow.nil {h : Nat} {w : World} : ORow h w (.slice none 0 0) [] := .inl ⟨⟨_, _, rfl⟩, rfl⟩
theorem Own.orow {w : World} {base : Nat} {v : Value} {zs : List Nat} (h : Own w base v zs) : ORow base w v zs := by
  obtain ⟨h1, h2⟩ := h
  rcases h2 with ⟨rfl, hn⟩ | ⟨g, cap, cur, e, hg, hc, _, _, hs, h3⟩
  · have : zs = [] := List.length_eq_zero_iff.1 hn
    subst this
    exact .nil
  · refine .inr ⟨g, 0, cap, e, hg, cur, hc, fun i hi => ?_⟩
    have : (fl zs)[i]? = some (.float .f32 (zs.getD i 0)) := by simp [fl, hi, List.getD_eq_getElem?_getD]
    rw [← h3, List.getElem?_take, if_pos (by omega)] at this
    rw [Nat.zero_add]
    simpa using this

/-- the marks 1, 2 and so on -/
def mks (n : Nat) : List Nat := (List.range n).map fun i => fb (1 + i)
theorem mks_length (n : Nat) : (mks n).length = n := by simp [mks]
theorem mks_getD (n i : Nat) (hi : i < n) : (mks n).getD i 0 = fb (1 + i) := by simp [mks, hi, List.getD_eq_getElem?_getD]
theorem mks_of {n : Nat} {ys : List Nat} (hl : ys.length = n) (h : ∀ i, i < n → ys.getD i 0 = fb (1 + i)) : ys = mks n := by
  refine List.ext_getElem (by rw [hl, mks_length]) fun i h1 h2 => ?_
  have := h i (by omega)
  simp only [mks, List.getElem_map, List.getElem_range]
  rw [← this]
  simp [List.getD_eq_getElem?_getD, h1]

theorem markO {h : Nat} {v : Value} {zs : List Nat} {w : World} (H : ORow h w v zs) (hl : zs.length ≤ 400) :
    Calls Try.prog 40 #[v, .int .i64 1] w fun e w' => e = .returned (.int .i64 ((1 + zs.length : Nat) : Int)) ∧ ORow h w' v (mks zs.length) ∧ (h ≤ w.heap.size → Below h w w') := by
  rcases H with ⟨⟨a, c, rfl⟩, rfl⟩ | ⟨g, o, c, rfl, hg, hr⟩
  · refine (mark_mt a c 1 w (by omega)).mono ?_
    rintro e w' ⟨rfl, rfl⟩
    exact ⟨rfl, .inl ⟨⟨_, _, rfl⟩, rfl⟩, fun _ => Below.refl _ _⟩
  · refine (markL_any g o zs.length 1 c zs w hr rfl (by omega) (by omega)).mono ?_
    rintro e w' ⟨rfl, ⟨ys, hy, hf, hr'⟩, hon⟩
    rw [mks_of hy hf] at hr'
    exact ⟨rfl, .inr ⟨g, o, c, by rw [mks_length], hg, hr'⟩, fun _ => hon.below hg⟩

theorem heldO {h n : Nat} {v : Value} {w : World} (H : ORow h w v (mks n)) (hl : n ≤ 400) :
    Calls Try.prog 42 #[v, .int .i64 1] w fun e w' => e = .returned (.int .i64 ((1 + n : Nat) : Int)) ∧ w = w' := by
  rcases H with ⟨⟨a, c, rfl⟩, hz⟩ | ⟨g, o, c, rfl, hg, hr⟩
  · have : n = 0 := by have := congrArg List.length hz; rw [mks_length] at this; simpa using this
    subst this
    exact held_mt a c 1 w (by omega)
  · rw [mks_length]
    exact heldL_any g o n 1 c (mks n) w hr (mks_length n) (by omega) (fun i hi => mks_getD _ _ hi)

/-- marks over a copy of an argument: only its block turns -/
theorem markX (p : Nat) (zs : List Nat) (w : World) (H : Cells w p (fl zs)) (hl : zs.length ≤ 1048576) :
    Calls Try.prog 40 #[sl p zs, .int .i64 1] w fun e w' => e = .returned (.int .i64 ((1 + zs.length : Nat) : Int)) ∧ Onl p w w' := by
  have HC : Hid (∃ ys : List Nat, ys.length = zs.length ∧ Cells w p (fl ys)) := Lib.hid ⟨zs, rfl, H⟩
  clear H
  unfold sl
  generalize zs.length = n at *
  go_enter Try.func40, Try.ntmps40
  go_wp2
  go_loopw [1, 5] (fun q i wr => ∃ j : Nat, j ≤ n ∧ i = .int .i64 j ∧ q = .int .i64 ((1 + j : Nat) : Int) ∧ Hid (∃ ys : List Nat, ys.length = n ∧ Cells wr p (fl ys)) ∧ Hid (Onl p w wr)) (fun _ i _ => n - (intOf i).toNat)
  case atStart => exact ⟨0, Nat.zero_le _, rfl, rfl, HC, Lib.hid (Onl.refl p w)⟩
  case round =>
    obtain ⟨j, hj, rfl, rfl, hrow, hon⟩ := hrel
    by_cases hlt : j < n
    · obtain ⟨ys, hy, C⟩ := hrow.out
      have hjy : j < ys.length := by omega
      have e3 : wr.cell? ⟨p, j, none⟩ = some (.float .f32 (ys.getD j 0)) := C.at j (by simp [fl, hjy, List.getD_eq_getElem?_getD])
      have e4 : wr.frozen? ⟨p, j, none⟩ = false := C.fz j
      have C := Lib.hid C
      have HY := Lib.hid hy
      clear hrow hy
      generalize ys.getD j 0 = old at *
      have hi : (0 : Int) ≤ (j : Int) := by omega
      have hi' : (j : Int) < (n : Int) := by omega
      go_wp2
      go_roundw
      case rel =>
        refine ⟨j + 1, by omega, by go_num, by go_num, Lib.hid ⟨ys.set j (floatOfInt .f32 ((1 + j : Nat) : Int)), by simpa using HY.out, ?_⟩, Lib.hid (Onl.setCell hon.out _ _)⟩
        have := C.out.set j (by simpa [fl] using hjy) (.float .f32 (floatOfInt .f32 ((1 + j : Nat) : Int)))
        rw [show fl (ys.set j (floatOfInt .f32 ((1 + j : Nat) : Int))) = (fl ys).set j (.float .f32 (floatOfInt .f32 ((1 + j : Nat) : Int))) from by simp [fl, List.map_set]]
        simpa using this
      case measure => simp [intOf]; omega
    · have e := Lib.hid (show j = n by omega)
      go_wp2
      go_ret
      have := e.out
      subst this
      exact ⟨rfl, hon.out⟩
end Go.Proofs.Ythfkmcpajookaaa

/- Lists of numbers of a call's own, each in a range of blocks; the laws' marks from any number on. -/
namespace Go.Proofs.Ythfkmcpajookaaa
open Go.RowKit
set_option linter.unusedVariables false

/-- the value v is a slice that reads as zs: empty, or in a block from lo to below hi -/
def OIn (lo hi : Nat) (w : World) (v : Value) (zs : List Nat) : Prop :=
  ((∃ a c, v = .slice a 0 c) ∧ zs = []) ∨ ∃ g o c, v = .slice (some ⟨g, o, none⟩) zs.length c ∧ lo ≤ g ∧ g < hi ∧ RowF w g o zs
abbrev Rg (lo hi : Nat) : Nat → Prop := fun j => lo ≤ j ∧ j < hi
theorem OIn.of {lo : Nat} {w : World} {v : Value} {zs : List Nat} (H : ORow lo w v zs) : OIn lo w.heap.size w v zs := by
  rcases H with H | ⟨g, o, c, rfl, hg, hr⟩
  · exact .inl H
  · exact .inr ⟨g, o, c, rfl, hg, hr.lt, hr⟩
theorem OIn.tur {lo hi : Nat} {S : Nat → Prop} {w w' : World} {v : Value} {zs : List Nat} (H : OIn lo hi w v zs) (t : Tur S w w') (hS : ∀ j, lo ≤ j → j < hi → ¬ S j) : OIn lo hi w' v zs := by
  rcases H with H | ⟨g, o, c, rfl, hg, hh, hr⟩
  · exact .inl H
  · exact .inr ⟨g, o, c, rfl, hg, hh, hr.of_block (t.block g hr.lt (hS g hg hh))⟩
theorem OIn.kept {lo hi : Nat} {w w' : World} {v : Value} {zs : List Nat} (H : OIn lo hi w v zs) (hb : Below w.heap.size w w') : OIn lo hi w' v zs :=
  H.tur (S := fun _ => False) (Tur.of_below hb) (fun _ _ _ h => h)
theorem OIn.frow {lo hi : Nat} {w : World} {v : Value} {zs : List Nat} (H : OIn lo hi w v zs) (hm : zs.length ≤ maxLen) : FRow w v zs := by
  rcases H with H | ⟨g, o, c, rfl, _, _, hr⟩
  · exact .inl H
  · exact .inr ⟨g, o, c, rfl, hm, fun i hi => hr.cell hi⟩
theorem OIn.shape {lo hi : Nat} {w : World} {v : Value} {zs : List Nat} (H : OIn lo hi w v zs) : ∃ a cap, v = .slice a zs.length cap := by
  rcases H with ⟨⟨a, c, rfl⟩, rfl⟩ | ⟨g, o, c, rfl, _⟩
  · exact ⟨_, _, rfl⟩
  · exact ⟨_, _, rfl⟩
/-- the marks k, k + 1 and so on -/
def mksK (k n : Nat) : List Nat := (List.range n).map fun i => fb (k + i)
theorem mksK_length (k n : Nat) : (mksK k n).length = n := by simp [mksK]
theorem mksK_getD (k n i : Nat) (hi : i < n) : (mksK k n).getD i 0 = fb (k + i) := by simp [mksK, hi, List.getD_eq_getElem?_getD]
theorem mksK_of {k n : Nat} {ys : List Nat} (hl : ys.length = n) (h : ∀ i, i < n → ys.getD i 0 = fb (k + i)) : ys = mksK k n := by
  refine List.ext_getElem (by rw [hl, mksK_length]) fun i h1 h2 => ?_
  have := h i (by omega)
  simp only [mksK, List.getElem_map, List.getElem_range]
  rw [← this]
  simp [List.getD_eq_getElem?_getD, h1]
theorem markIn {lo hi k : Nat} {v : Value} {zs : List Nat} {w : World} (H : OIn lo hi w v zs) (hl : zs.length ≤ 400) (hk : k ≤ 400) :
    Calls Try.prog 40 #[v, .int .i64 k] w fun e w' => e = .returned (.int .i64 ((k + zs.length : Nat) : Int)) ∧ OIn lo hi w' v (mksK k zs.length) ∧ Tur (Rg lo hi) w w' := by
  rcases H with ⟨⟨a, c, rfl⟩, rfl⟩ | ⟨g, o, c, rfl, hg, hh, hr⟩
  · refine (mark_mt a c k w hk).mono ?_
    rintro e w' ⟨rfl, rfl⟩
    exact ⟨rfl, .inl ⟨⟨_, _, rfl⟩, rfl⟩, Tur.of_below (Below.refl _ _)⟩
  · refine (markL_any g o zs.length k c zs w hr rfl (by omega) (by omega)).mono ?_
    rintro e w' ⟨rfl, ⟨ys, hy, hf, hr'⟩, hon⟩
    rw [mksK_of hy hf] at hr'
    exact ⟨rfl, .inr ⟨g, o, c, by rw [mksK_length], hg, hh, hr'⟩, Tur.of_onl hon ⟨hg, hh⟩⟩
theorem heldIn {lo hi k n : Nat} {v : Value} {w : World} (H : OIn lo hi w v (mksK k n)) (hl : k + n ≤ 400) :
    Calls Try.prog 42 #[v, .int .i64 k] w fun e w' => e = .returned (.int .i64 ((k + n : Nat) : Int)) ∧ w = w' := by
  rcases H with ⟨⟨a, c, rfl⟩, hz⟩ | ⟨g, o, c, rfl, hg, hh, hr⟩
  · have : n = 0 := by have := congrArg List.length hz; rw [mksK_length] at this; simpa using this
    subst this
    exact held_mt a c k w (by omega)
  · rw [mksK_length]
    exact heldL_any g o n k c (mksK k n) w hr (mksK_length k n) (by omega) (fun i hi => mksK_getD _ _ _ hi)
end Go.Proofs.Ythfkmcpajookaaa

/- Rows of bools that may be written; the laws' marks on them. -/
namespace Go.Proofs.Ythfkmcpajookaaa
open Go.RowKit
set_option linter.unusedVariables false

/-- the laws' mark k + i, as a bool -/
def mkb (k i : Nat) : Bool := (((k : Int) + (i : Int)) % 3 == 0)
/-- from cell o on, block g holds the numbers zs, and may be written -/
def RowBo (w : World) (g o : Nat) (zs : List Bool) : Prop := ∃ c : Array Value, w.heap[g]? = some (.cells c 4 (0, 0)) ∧ ∀ i, i < zs.length → c[o + i]? = some (.bool (zs.getD i false))
theorem RowBo.cell {w : World} {g o i : Nat} {zs : List Bool} (h : RowBo w g o zs) (hi : i < zs.length) : w.cell? ⟨g, o + i, none⟩ = some (.bool (zs.getD i false)) := by
  obtain ⟨c, hb, hc⟩ := h
  simp [World.cell?, hb, hc i hi]
theorem RowBo.frozen {w : World} {g o : Nat} {zs : List Bool} (h : RowBo w g o zs) (i : Nat) : w.frozen? ⟨g, i, none⟩ = false := by
  obtain ⟨c, hb, _⟩ := h
  simp [World.frozen?, hb]
theorem RowBo.lt {w : World} {g o : Nat} {zs : List Bool} (h : RowBo w g o zs) : g < w.heap.size := by
  obtain ⟨c, hb, _⟩ := h
  exact (Array.getElem?_eq_some_iff.1 hb).1
theorem RowBo.of_block {w w' : World} {g o : Nat} {zs : List Bool} (h : RowBo w g o zs) (e : w'.heap[g]? = w.heap[g]?) : RowBo w' g o zs := by
  obtain ⟨c, hb, hc⟩ := h
  exact ⟨c, e.trans hb, hc⟩
theorem RowBo.set {w : World} {g o : Nat} {zs : List Bool} (h : RowBo w g o zs) (j : Nat) (x : Bool) (hj : j < zs.length) : RowBo (w.setCell ⟨g, o + j, none⟩ (.bool x)) g o (zs.set j x) := by
  obtain ⟨c, hb, hc⟩ := h
  refine ⟨c.setIfInBounds (o + j) (.bool x), by simp [World.setCell, Array.getElem?_modify, hb], fun i hi => ?_⟩
  have hi' : i < zs.length := by simpa using hi
  rw [Array.getElem?_setIfInBounds]
  by_cases e : i = j
  · subst e
    have hlt : o + i < c.size := (Array.getElem?_eq_some_iff.1 (hc i hi')).1
    simp [hlt, hj, List.getD_eq_getElem?_getD]
  · rw [if_neg (by omega), hc i hi']
    simp [List.getD_eq_getElem?_getD, List.getElem?_set_ne (Ne.symm e)]
theorem markLB_any (g o n k c : Nat) (zs : List Bool) (w : World) (hr : RowBo w g o zs) (hz : zs.length = n) (hn : n ≤ 1048576) (hk : k ≤ 1048576) :
    Calls Try.prog 41 #[.slice (some ⟨g, o, none⟩) n c, .int .i64 k] w fun e w' => e = .returned (.int .i64 ((k + n : Nat) : Int)) ∧ (∃ ys : List Bool, ys.length = n ∧ (∀ i, i < n → ys.getD i false = mkb k i) ∧ RowBo w' g o ys) ∧ Onl g w w' := by
  have HR : Hid (∃ ys : List Bool, ys.length = n ∧ (∀ i, i < 0 → ys.getD i false = mkb k i) ∧ RowBo w g o ys) := Lib.hid ⟨zs, hz, fun i hi => absurd hi (by omega), hr⟩
  clear hr hz
  go_enter Try.func41, Try.ntmps41
  go_wp2
  go_loopw [1, 5] (fun q i wr => ∃ j : Nat, j ≤ n ∧ i = .int .i64 j ∧ q = .int .i64 ((k + j : Nat) : Int) ∧ Hid (∃ ys : List Bool, ys.length = n ∧ (∀ i, i < j → ys.getD i false = mkb k i) ∧ RowBo wr g o ys) ∧ Hid (Onl g w wr)) (fun _ i _ => n - (intOf i).toNat)
  case atStart => exact ⟨0, Nat.zero_le _, rfl, rfl, HR, Lib.hid (Onl.refl g w)⟩
  case round =>
    obtain ⟨j, hj, rfl, rfl, hrow, hon⟩ := hrel
    by_cases hlt : j < n
    · obtain ⟨ys, hy, hm, C⟩ := hrow.out
      have e3 : wr.cell? ⟨g, o + j, none⟩ = some (.bool (ys.getD j false)) := C.cell (by omega)
      have e4 : wr.frozen? ⟨g, o + j, none⟩ = false := C.frozen _
      have C := Lib.hid C
      have HY := Lib.hid hy
      have HM := Lib.hid hm
      clear hrow hy hm
      generalize ys.getD j false = old at *
      have hi : (0 : Int) ≤ (j : Int) := by omega
      have hi' : (j : Int) < (n : Int) := by omega
      go_wp2
      go_roundw
      case rel =>
        refine ⟨j + 1, by omega, by go_num, by go_num, Lib.hid ⟨ys.set j (mkb k j), by simpa using HY.out, fun i hi => ?_, ?_⟩, Lib.hid (Onl.setCell hon.out _ _)⟩
        · by_cases e : i = j
          · subst e
            have := HY.out
            simp [List.getD_eq_getElem?_getD, show i < ys.length by omega]
          · have := HM.out i (by omega)
            rw [← this]
            simp [List.getD_eq_getElem?_getD, List.getElem?_set_ne (Ne.symm e)]
        · have := C.out.set j (mkb k j) (by have := HY.out; omega)
          unfold mkb at this ⊢
          simpa using this
      case measure => simp [intOf]; omega
    · have e := Lib.hid (show j = n by omega)
      go_wp2
      go_ret
      have := e.out
      subst this
      exact ⟨rfl, hrow.out, hon.out⟩

theorem heldLB_any (g o n k c : Nat) (zs : List Bool) (w : World) (hr : RowBo w g o zs) (hz : zs.length = n) (hk : k + n ≤ 1000) (hf : ∀ i, i < n → zs.getD i false = mkb k i) :
    Calls Try.prog 43 #[.slice (some ⟨g, o, none⟩) n c, .int .i64 k] w fun e w' => e = .returned (.int .i64 ((k + n : Nat) : Int)) ∧ w = w' := by
  have HC : Hid (∀ i, i < n → w.cell? ⟨g, o + i, none⟩ = some (.bool (mkb k i))) := Lib.hid (fun i hi => by rw [hr.cell (by omega), hf i hi])
  clear hr hz hf
  go_enter Try.func43, Try.ntmps43
  go_wp2
  go_loop [1, 5] (fun q i => ∃ j : Nat, j ≤ n ∧ i = .int .i64 j ∧ q = .int .i64 ((k + j : Nat) : Int)) (fun _ i => n - (intOf i).toNat)
  case atStart => exact ⟨0, Nat.zero_le _, rfl, rfl⟩
  case round =>
    obtain ⟨j, hj, rfl, rfl⟩ := hrel
    by_cases hlt : j < n
    · have z0 := HC.out j hlt
      unfold mkb at z0
      have hi : (0 : Int) ≤ (j : Int) := by omega
      have hi' : (j : Int) < (n : Int) := by omega
      go_wp2
      go_round
      case rel => exact ⟨j + 1, by omega, by go_num, by go_num⟩
      case measure => simp [intOf]; omega
    · have e := Lib.hid (show j = n by omega)
      go_wp2
      go_ret
      have := e.out
      subst this
      exact ⟨rfl, rfl⟩

theorem markB_mt (a : Option Addr) (c k : Nat) (w : World) (hk : k ≤ 1000) : Calls Try.prog 41 #[.slice a 0 c, .int .i64 k] w fun e w' => e = .returned (.int .i64 k) ∧ w = w' := by
  go_enter Try.func41, Try.ntmps41
  go_wp2
  go_loop [1, 5] (fun q i => i = .int .i64 0 ∧ q = .int .i64 k) (fun _ _ => 0)
  case atStart => exact ⟨rfl, rfl⟩
  case round =>
    obtain ⟨rfl, rfl⟩ := hrel
    go_wp2
    go_ret
    exact ⟨rfl, rfl⟩
theorem heldB_mt (a : Option Addr) (c k : Nat) (w : World) (hk : k ≤ 1000) : Calls Try.prog 43 #[.slice a 0 c, .int .i64 k] w fun e w' => e = .returned (.int .i64 k) ∧ w = w' := by
  go_enter Try.func43, Try.ntmps43
  go_wp2
  go_loop [1, 5] (fun q i => i = .int .i64 0 ∧ q = .int .i64 k) (fun _ _ => 0)
  case atStart => exact ⟨rfl, rfl⟩
  case round =>
    obtain ⟨rfl, rfl⟩ := hrel
    go_wp2
    go_ret
    exact ⟨rfl, rfl⟩

/-- the value v is a slice that reads as zs: empty, or in a block from lo to below hi -/
def OInB (lo hi : Nat) (w : World) (v : Value) (zs : List Bool) : Prop :=
  ((∃ a c, v = .slice a 0 c) ∧ zs = []) ∨ ∃ g o c, v = .slice (some ⟨g, o, none⟩) zs.length c ∧ lo ≤ g ∧ g < hi ∧ RowBo w g o zs
theorem OInB.tur {lo hi : Nat} {S : Nat → Prop} {w w' : World} {v : Value} {zs : List Bool} (H : OInB lo hi w v zs) (t : Tur S w w') (hS : ∀ j, lo ≤ j → j < hi → ¬ S j) : OInB lo hi w' v zs := by
  rcases H with H | ⟨g, o, c, rfl, hg, hh, hr⟩
  · exact .inl H
  · exact .inr ⟨g, o, c, rfl, hg, hh, hr.of_block (t.block g hr.lt (hS g hg hh))⟩
theorem OInB.kept {lo hi : Nat} {w w' : World} {v : Value} {zs : List Bool} (H : OInB lo hi w v zs) (hb : Below w.heap.size w w') : OInB lo hi w' v zs :=
  H.tur (S := fun _ => False) (Tur.of_below hb) (fun _ _ _ h => h)
theorem OInB.brow {lo hi : Nat} {w : World} {v : Value} {zs : List Bool} (H : OInB lo hi w v zs) (hm : zs.length ≤ maxLen) : BRow w v zs := by
  rcases H with ⟨h, rfl⟩ | ⟨g, o, c, rfl, _, _, hr⟩
  · exact .inl ⟨h, rfl⟩
  · exact .inr ⟨g, o, c, rfl, hm, fun i hi => hr.cell hi⟩
theorem OInB.shape {lo hi : Nat} {w : World} {v : Value} {zs : List Bool} (H : OInB lo hi w v zs) : ∃ a cap, v = .slice a zs.length cap := by
  rcases H with ⟨⟨a, c, rfl⟩, rfl⟩ | ⟨g, o, c, rfl, _⟩
  · exact ⟨_, _, rfl⟩
  · exact ⟨_, _, rfl⟩
def mksB (k n : Nat) : List Bool := (List.range n).map fun i => mkb k i
theorem mksB_length (k n : Nat) : (mksB k n).length = n := by simp [mksB]
theorem mksB_getD (k n i : Nat) (hi : i < n) : (mksB k n).getD i false = mkb k i := by simp [mksB, hi, List.getD_eq_getElem?_getD]
theorem mksB_of {k n : Nat} {ys : List Bool} (hl : ys.length = n) (h : ∀ i, i < n → ys.getD i false = mkb k i) : ys = mksB k n := by
  refine List.ext_getElem (by rw [hl, mksB_length]) fun i h1 h2 => ?_
  have := h i (by omega)
  simp only [mksB, List.getElem_map, List.getElem_range]
  rw [← this]
  simp [List.getD_eq_getElem?_getD, h1]
theorem markInB {lo hi k : Nat} {v : Value} {zs : List Bool} {w : World} (H : OInB lo hi w v zs) (hl : zs.length ≤ 400) (hk : k ≤ 1000) :
    Calls Try.prog 41 #[v, .int .i64 k] w fun e w' => e = .returned (.int .i64 ((k + zs.length : Nat) : Int)) ∧ OInB lo hi w' v (mksB k zs.length) ∧ Tur (Rg lo hi) w w' := by
  rcases H with ⟨⟨a, c, rfl⟩, rfl⟩ | ⟨g, o, c, rfl, hg, hh, hr⟩
  · refine (markB_mt a c k w hk).mono ?_
    rintro e w' ⟨rfl, rfl⟩
    exact ⟨rfl, .inl ⟨⟨_, _, rfl⟩, rfl⟩, Tur.of_below (Below.refl _ _)⟩
  · refine (markLB_any g o zs.length k c zs w hr rfl (by omega) (by omega)).mono ?_
    rintro e w' ⟨rfl, ⟨ys, hy, hf, hr'⟩, hon⟩
    rw [mksB_of hy hf] at hr'
    exact ⟨rfl, .inr ⟨g, o, c, by rw [mksB_length], hg, hh, hr'⟩, Tur.of_onl hon ⟨hg, hh⟩⟩
theorem heldInB {lo hi k n : Nat} {v : Value} {w : World} (H : OInB lo hi w v (mksB k n)) (hl : k + n ≤ 1000) :
    Calls Try.prog 43 #[v, .int .i64 k] w fun e w' => e = .returned (.int .i64 ((k + n : Nat) : Int)) ∧ w = w' := by
  rcases H with ⟨⟨a, c, rfl⟩, hz⟩ | ⟨g, o, c, rfl, hg, hh, hr⟩
  · have : n = 0 := by have := congrArg List.length hz; rw [mksB_length] at this; simpa using this
    subst this
    exact heldB_mt a c k w (by omega)
  · rw [mksB_length]
    exact heldLB_any g o n k c (mksB k n) w hr (mksB_length k n) (by omega) (fun i hi => mksB_getD _ _ _ hi)
end Go.Proofs.Ythfkmcpajookaaa

/- Plates of a call's own: four lists in blocks that differ; the laws' marks on them; what functions over plates hand back. -/
namespace Go.Proofs.Ythfkmcpajookaaa
open Go.RowKit
set_option linter.unusedVariables false

theorem heldIn9 {lo hi k n : Nat} {v : Value} {w : World} (H : OIn lo hi w v (mksK k n)) (hk : k ≤ 400) (hl : k + n ≤ 499) :
    Calls Try.prog 42 #[v, .int .i64 k] w fun e w' => e = .returned (.int .i64 ((k + n : Nat) : Int)) ∧ w = w' := by
  rcases H with ⟨⟨a, c, rfl⟩, hz⟩ | ⟨g, o, c, rfl, hg, hh, hr⟩
  · have : n = 0 := by have := congrArg List.length hz; rw [mksK_length] at this; simpa using this
    subst this
    exact held_mt a c k w hk
  · rw [mksK_length]
    exact heldL_any g o n k c (mksK k n) w hr (mksK_length k n) (by omega) (fun i hi => mksK_getD _ _ _ hi)
/-- four lists in blocks from h to below u that differ -/
def P4 (h u : Nat) (w : World) (a b c d : Value) (r : PL) : Prop :=
  ∃ g0 g1 g2 g3, (h ≤ g0 ∧ g0 < u ∧ h ≤ g1 ∧ g1 < u ∧ h ≤ g2 ∧ g2 < u ∧ h ≤ g3 ∧ g3 < u) ∧ (g0 ≠ g1 ∧ g0 ≠ g2 ∧ g0 ≠ g3 ∧ g1 ≠ g2 ∧ g1 ≠ g3 ∧ g2 ≠ g3) ∧ OIn g0 (g0 + 1) w a r.W ∧ OIn g1 (g1 + 1) w b r.E ∧ OIn g2 (g2 + 1) w c r.G ∧ OInB g3 (g3 + 1) w d r.H
def PNil (a b c d : Value) (r : PL) : Prop := (a = .slice none 0 0 ∧ b = .slice none 0 0 ∧ c = .slice none 0 0 ∧ d = .slice none 0 0) ∧ r.W = [] ∧ r.E = [] ∧ r.G = [] ∧ r.H = []
def PX (h u : Nat) (w : World) (a b c d : Value) (r : PL) : Prop := PNil a b c d r ∨ P4 h u w a b c d r
theorem PX.tur {h u : Nat} {S : Nat → Prop} {w w' : World} {a b c d : Value} {r : PL} (H : PX h u w a b c d r) (t : Tur S w w') (hS : ∀ j, h ≤ j → ¬ S j) : PX h u w' a b c d r := by
  rcases H with H | ⟨g0, g1, g2, g3, B, D, h0, h1, h2, h3⟩
  · exact .inl H
  · obtain ⟨b0, _, b1, _, b2, _, b3, _⟩ := B
    exact .inr ⟨g0, g1, g2, g3, ⟨b0, by assumption, b1, by assumption, b2, by assumption, b3, by assumption⟩, D, h0.tur t (fun j _ _ => hS j (by omega)), h1.tur t (fun j _ _ => hS j (by omega)), h2.tur t (fun j _ _ => hS j (by omega)), h3.tur t (fun j _ _ => hS j (by omega))⟩
theorem PX.kept {h u : Nat} {w w' : World} {a b c d : Value} {r : PL} (H : PX h u w a b c d r) (hb : Below w.heap.size w w') : PX h u w' a b c d r :=
  H.tur (S := fun _ => False) (Tur.of_below hb) (fun _ _ h => h)
theorem PX.prow {h u : Nat} {w : World} {a b c d : Value} {r : PL} (H : PX h u w a b c d r) (hl : r.size ≤ 1048576) : PRow w a b c d r := by
  have hx : maxLen = 9223372036854775807 := rfl
  unfold PL.size at hl
  rcases H with ⟨⟨rfl, rfl, rfl, rfl⟩, e0, e1, e2, e3⟩ | ⟨g0, g1, g2, g3, B, D, h0, h1, h2, h3⟩
  · exact ⟨.inl ⟨⟨_, _, rfl⟩, e0⟩, .inl ⟨⟨_, _, rfl⟩, e1⟩, .inl ⟨⟨_, _, rfl⟩, e2⟩, .inl ⟨⟨_, _, rfl⟩, e3⟩⟩
  · exact ⟨h0.frow (by omega), h1.frow (by omega), h2.frow (by omega), h3.brow (by omega)⟩
theorem PX.shapes {h u : Nat} {w : World} {a b c d : Value} {r : PL} (H : PX h u w a b c d r) : (∃ x k, a = .slice x r.W.length k) ∧ (∃ x k, b = .slice x r.E.length k) ∧ (∃ x k, c = .slice x r.G.length k) ∧ ∃ x k, d = .slice x r.H.length k := by
  rcases H with ⟨⟨rfl, rfl, rfl, rfl⟩, e0, e1, e2, e3⟩ | ⟨g0, g1, g2, g3, B, D, h0, h1, h2, h3⟩
  · rw [e0, e1, e2, e3]
    exact ⟨⟨_, _, rfl⟩, ⟨_, _, rfl⟩, ⟨_, _, rfl⟩, ⟨_, _, rfl⟩⟩
  · exact ⟨h0.shape, h1.shape, h2.shape, h3.shape⟩
def mksP (r : PL) : PL := ⟨r.X, r.Y, mksK 1 r.W.length, mksK (1 + r.W.length) r.E.length, mksK (1 + r.W.length + r.E.length) r.G.length, mksB (1 + r.W.length + r.E.length + r.G.length) r.H.length⟩
/-- no list is longer than the greatest plate -/
def PSm (r : PL) : Prop := r.W.length ≤ 144 ∧ r.E.length ≤ 144 ∧ r.G.length ≤ 144 ∧ r.H.length ≤ 144
set_option maxHeartbeats 3200000 in
set_option maxRecDepth 8000 in
theorem markPlateX {h u : Nat} {a b c d : Value} {r : PL} {w : World} (H : PX h u w a b c d r) (hu : u ≤ w.heap.size) (hl : PSm r) :
    Calls Try.prog 13 #[.agg #[.int .i64 r.X, .int .i64 r.Y, a, b, c, d], .int .i64 1] w fun e w' => e = .returned (.int .i64 ((1 + r.size : Nat) : Int)) ∧ PX h u w' a b c d (mksP r) ∧ Tur (Rg h u) w w' := by
  have SZ : Hid (1 + r.W.length + r.E.length + r.G.length + r.H.length = 1 + r.size) := Lib.hid (by unfold PL.size; omega)
  obtain ⟨l0, l1, l2, l3⟩ := hl
  have B0 := below_al1 w (.cells (pvs r a b c d).toArray 26)
  have X := Lib.hid (Cells.made w (pvs r a b c d) 26)
  have BB := Lib.hid B0
  have T0 := Lib.hid (Tur.of_below (S := Rg h u) B0)
  rcases H with ⟨⟨rfl, rfl, rfl, rfl⟩, e0, e1, e2, e3⟩ | ⟨g0, g1, g2, g3, GB, GD, h0, h1, h2, h3⟩
  · have z0 : r.W.length = 0 := by rw [e0]; rfl
    have z1 : r.E.length = 0 := by rw [e1]; rfl
    have z2 : r.G.length = 0 := by rw [e2]; rfl
    have z3 : r.H.length = 0 := by rw [e3]; rfl
    have S0 : Hid (r.size = 0) := Lib.hid (by unfold PL.size; omega)
    have Z := Lib.hid (And.intro z0 (And.intro z1 (And.intro z2 z3)))
    clear e0 e1 e2 e3 z0 z1 z2 z3 l0 l1 l2 l3 B0
    go_enter Try.func13, Try.ntmps13
    have c0 := X.out.at 0 rfl; have c1 := X.out.at 1 rfl; have c2 := X.out.at 2 rfl; have c3 := X.out.at 3 rfl; have c4 := X.out.at 4 rfl; have c5 := X.out.at 5 rfl
    go_wp2_with fail
    refine (mark_mt none 0 1 _ (by decide)).mono ?_
    rintro _ _ ⟨rfl, rfl⟩
    go_wp2_with fail
    refine (mark_mt none 0 1 _ (by decide)).mono ?_
    rintro _ _ ⟨rfl, rfl⟩
    go_wp2_with fail
    refine (mark_mt none 0 1 _ (by decide)).mono ?_
    rintro _ _ ⟨rfl, rfl⟩
    go_wp2_with fail
    refine (markB_mt none 0 1 _ (by decide)).mono ?_
    rintro _ _ ⟨rfl, rfl⟩
    go_wp2
    go_ret
    refine ⟨by rw [S0.out]; rfl, .inl ⟨⟨rfl, rfl, rfl, rfl⟩, ?_⟩, T0.out⟩
    obtain ⟨z0, z1, z2, z3⟩ := Z.out
    unfold mksP
    rw [z0, z1, z2, z3]
    exact ⟨rfl, rfl, rfl, rfl⟩
  · obtain ⟨⟨xa, ka, ea⟩, ⟨xb, kb, eb⟩, ⟨xc, kc, ec⟩, ⟨xd, kd, ed⟩⟩ := And.intro h0.shape (And.intro h1.shape (And.intro h2.shape h3.shape))
    have A0 := Lib.hid (h0.kept B0)
    have A1 := Lib.hid (h1.kept B0)
    have A2 := Lib.hid (h2.kept B0)
    have A3 := Lib.hid (h3.kept B0)
    have GG := Lib.hid (And.intro GB (And.intro GD hu))
    have LL := Lib.hid (And.intro l0 (And.intro l1 (And.intro l2 l3)))
    clear h0 h1 h2 h3 GB GD hu l0 l1 l2 l3 B0
    subst ea eb ec ed
    go_enter Try.func13, Try.ntmps13
    have c0 := X.out.at 0 rfl; have c1 := X.out.at 1 rfl; have c2 := X.out.at 2 rfl; have c3 := X.out.at 3 rfl; have c4 := X.out.at 4 rfl; have c5 := X.out.at 5 rfl
    go_wp2_with fail
    refine (markIn (k := (1)) A0.out (by have := LL.out; omega) (by have := LL.out; omega)).mono ?_
    rintro e w1 ⟨rfl, hO, ht⟩
    clear c0 c1 c2 c3 c4 c5
    have M0 := Lib.hid hO
    obtain ⟨⟨q0, q1, q2, q3, q4, q5, q6, q7⟩, ⟨d01, d02, d03, d12, d13, d23⟩, hu⟩ := GG.out
    have A1 := Lib.hid (A1.out.tur ht (fun j h1 h2 h3 => by have e : g0 ≤ j ∧ j < g0 + 1 := h3; omega))
    have A2 := Lib.hid (A2.out.tur ht (fun j h1 h2 h3 => by have e : g0 ≤ j ∧ j < g0 + 1 := h3; omega))
    have A3 := Lib.hid (A3.out.tur ht (fun j h1 h2 h3 => by have e : g0 ≤ j ∧ j < g0 + 1 := h3; omega))
    have X := Lib.hid (ht.cells X.out (by intro h3; have e : g0 ≤ w.heap.size ∧ w.heap.size < g0 + 1 := h3; omega))
    have T0 := Lib.hid (T0.out.trans ⟨ht.os, ht.tape, ht.output, ht.size, fun k hk hs => ht.block k hk (fun h3 => hs (by have e : g0 ≤ k ∧ k < g0 + 1 := h3; exact ⟨by omega, by omega⟩))⟩)
    clear hO ht q0 q1 q2 q3 q4 q5 q6 q7 d01 d02 d03 d12 d13 d23 hu
    have c0 := X.out.at 0 rfl; have c1 := X.out.at 1 rfl; have c2 := X.out.at 2 rfl; have c3 := X.out.at 3 rfl; have c4 := X.out.at 4 rfl; have c5 := X.out.at 5 rfl
    go_wp2_with fail
    refine (markIn (k := (1 + r.W.length)) A1.out (by have := LL.out; omega) (by have := LL.out; omega)).mono ?_
    rintro e w2 ⟨rfl, hO, ht⟩
    clear c0 c1 c2 c3 c4 c5
    have M1 := Lib.hid hO
    obtain ⟨⟨q0, q1, q2, q3, q4, q5, q6, q7⟩, ⟨d01, d02, d03, d12, d13, d23⟩, hu⟩ := GG.out
    have M0 := Lib.hid (M0.out.tur ht (fun j h1 h2 h3 => by have e : g1 ≤ j ∧ j < g1 + 1 := h3; omega))
    have A2 := Lib.hid (A2.out.tur ht (fun j h1 h2 h3 => by have e : g1 ≤ j ∧ j < g1 + 1 := h3; omega))
    have A3 := Lib.hid (A3.out.tur ht (fun j h1 h2 h3 => by have e : g1 ≤ j ∧ j < g1 + 1 := h3; omega))
    have X := Lib.hid (ht.cells X.out (by intro h3; have e : g1 ≤ w.heap.size ∧ w.heap.size < g1 + 1 := h3; omega))
    have T0 := Lib.hid (T0.out.trans ⟨ht.os, ht.tape, ht.output, ht.size, fun k hk hs => ht.block k hk (fun h3 => hs (by have e : g1 ≤ k ∧ k < g1 + 1 := h3; exact ⟨by omega, by omega⟩))⟩)
    clear hO ht q0 q1 q2 q3 q4 q5 q6 q7 d01 d02 d03 d12 d13 d23 hu
    have c0 := X.out.at 0 rfl; have c1 := X.out.at 1 rfl; have c2 := X.out.at 2 rfl; have c3 := X.out.at 3 rfl; have c4 := X.out.at 4 rfl; have c5 := X.out.at 5 rfl
    go_wp2_with fail
    refine (markIn (k := (1 + r.W.length + r.E.length)) A2.out (by have := LL.out; omega) (by have := LL.out; omega)).mono ?_
    rintro e w3 ⟨rfl, hO, ht⟩
    clear c0 c1 c2 c3 c4 c5
    have M2 := Lib.hid hO
    obtain ⟨⟨q0, q1, q2, q3, q4, q5, q6, q7⟩, ⟨d01, d02, d03, d12, d13, d23⟩, hu⟩ := GG.out
    have M0 := Lib.hid (M0.out.tur ht (fun j h1 h2 h3 => by have e : g2 ≤ j ∧ j < g2 + 1 := h3; omega))
    have M1 := Lib.hid (M1.out.tur ht (fun j h1 h2 h3 => by have e : g2 ≤ j ∧ j < g2 + 1 := h3; omega))
    have A3 := Lib.hid (A3.out.tur ht (fun j h1 h2 h3 => by have e : g2 ≤ j ∧ j < g2 + 1 := h3; omega))
    have X := Lib.hid (ht.cells X.out (by intro h3; have e : g2 ≤ w.heap.size ∧ w.heap.size < g2 + 1 := h3; omega))
    have T0 := Lib.hid (T0.out.trans ⟨ht.os, ht.tape, ht.output, ht.size, fun k hk hs => ht.block k hk (fun h3 => hs (by have e : g2 ≤ k ∧ k < g2 + 1 := h3; exact ⟨by omega, by omega⟩))⟩)
    clear hO ht q0 q1 q2 q3 q4 q5 q6 q7 d01 d02 d03 d12 d13 d23 hu
    have c0 := X.out.at 0 rfl; have c1 := X.out.at 1 rfl; have c2 := X.out.at 2 rfl; have c3 := X.out.at 3 rfl; have c4 := X.out.at 4 rfl; have c5 := X.out.at 5 rfl
    go_wp2_with fail
    refine (markInB (k := (1 + r.W.length + r.E.length + r.G.length)) A3.out (by have := LL.out; omega) (by have := LL.out; omega)).mono ?_
    rintro e w4 ⟨rfl, hO, ht⟩
    clear c0 c1 c2 c3 c4 c5
    have M3 := Lib.hid hO
    obtain ⟨⟨q0, q1, q2, q3, q4, q5, q6, q7⟩, ⟨d01, d02, d03, d12, d13, d23⟩, hu⟩ := GG.out
    have M0 := Lib.hid (M0.out.tur ht (fun j h1 h2 h3 => by have e : g3 ≤ j ∧ j < g3 + 1 := h3; omega))
    have M1 := Lib.hid (M1.out.tur ht (fun j h1 h2 h3 => by have e : g3 ≤ j ∧ j < g3 + 1 := h3; omega))
    have M2 := Lib.hid (M2.out.tur ht (fun j h1 h2 h3 => by have e : g3 ≤ j ∧ j < g3 + 1 := h3; omega))
    have X := Lib.hid (ht.cells X.out (by intro h3; have e : g3 ≤ w.heap.size ∧ w.heap.size < g3 + 1 := h3; omega))
    have T0 := Lib.hid (T0.out.trans ⟨ht.os, ht.tape, ht.output, ht.size, fun k hk hs => ht.block k hk (fun h3 => hs (by have e : g3 ≤ k ∧ k < g3 + 1 := h3; exact ⟨by omega, by omega⟩))⟩)
    clear hO ht q0 q1 q2 q3 q4 q5 q6 q7 d01 d02 d03 d12 d13 d23 hu
    have c0 := X.out.at 0 rfl; have c1 := X.out.at 1 rfl; have c2 := X.out.at 2 rfl; have c3 := X.out.at 3 rfl; have c4 := X.out.at 4 rfl; have c5 := X.out.at 5 rfl
    go_wp2
    go_ret
    obtain ⟨GB, GD, hu⟩ := GG.out
    refine ⟨by rw [← SZ.out]; rfl, .inr ⟨g0, g1, g2, g3, GB, GD, ?_, ?_, ?_, ?_⟩, T0.out⟩
    · simpa [mksP, mksK_length, mksB_length] using M0.out
    · simpa [mksP, mksK_length, mksB_length] using M1.out
    · simpa [mksP, mksK_length, mksB_length] using M2.out
    · simpa [mksP, mksK_length, mksB_length] using M3.out
set_option maxHeartbeats 3200000 in
set_option maxRecDepth 8000 in
theorem heldPlateX {h u : Nat} {a b c d : Value} {r : PL} {w : World} (H : PX h u w a b c d (mksP r)) (hu : u ≤ w.heap.size) (hl : PSm r) :
    Calls Try.prog 14 #[.agg #[.int .i64 r.X, .int .i64 r.Y, a, b, c, d], .int .i64 1] w fun e w' => e = .returned (.int .i64 ((1 + r.size : Nat) : Int)) ∧ Below w.heap.size w w' := by
  have SZ : Hid (1 + r.W.length + r.E.length + r.G.length + r.H.length = 1 + r.size) := Lib.hid (by unfold PL.size; omega)
  obtain ⟨l0, l1, l2, l3⟩ := hl
  have B0 := below_al1 w (.cells (pvs r a b c d).toArray 26)
  have X := Lib.hid (Cells.made w (pvs r a b c d) 26)
  have BB := Lib.hid B0
  have T0 := Lib.hid (Tur.of_below (S := Rg h u) B0)
  rcases H with ⟨⟨rfl, rfl, rfl, rfl⟩, e0, e1, e2, e3⟩ | ⟨g0, g1, g2, g3, GB, GD, h0, h1, h2, h3⟩
  · have z0 : r.W.length = 0 := by have := congrArg List.length e0; simpa [mksP, mksK_length] using this
    have z1 : r.E.length = 0 := by have := congrArg List.length e1; simpa [mksP, mksK_length] using this
    have z2 : r.G.length = 0 := by have := congrArg List.length e2; simpa [mksP, mksK_length] using this
    have z3 : r.H.length = 0 := by have := congrArg List.length e3; simpa [mksP, mksB_length] using this
    have S0 : Hid (r.size = 0) := Lib.hid (by unfold PL.size; omega)
    have Z := Lib.hid (And.intro z0 (And.intro z1 (And.intro z2 z3)))
    clear e0 e1 e2 e3 z0 z1 z2 z3 l0 l1 l2 l3 B0
    go_enter Try.func14, Try.ntmps14
    have c0 := X.out.at 0 rfl; have c1 := X.out.at 1 rfl; have c2 := X.out.at 2 rfl; have c3 := X.out.at 3 rfl; have c4 := X.out.at 4 rfl; have c5 := X.out.at 5 rfl
    go_wp2_with fail
    refine (held_mt none 0 1 _ (by decide)).mono ?_
    rintro _ _ ⟨rfl, rfl⟩
    go_wp2_with fail
    refine (held_mt none 0 1 _ (by decide)).mono ?_
    rintro _ _ ⟨rfl, rfl⟩
    go_wp2_with fail
    refine (held_mt none 0 1 _ (by decide)).mono ?_
    rintro _ _ ⟨rfl, rfl⟩
    go_wp2_with fail
    refine (heldB_mt none 0 1 _ (by decide)).mono ?_
    rintro _ _ ⟨rfl, rfl⟩
    go_wp2
    go_ret
    exact ⟨by rw [S0.out]; rfl, BB.out⟩
  · obtain ⟨⟨xa, ka, ea⟩, ⟨xb, kb, eb⟩, ⟨xc, kc, ec⟩, ⟨xd, kd, ed⟩⟩ := And.intro h0.shape (And.intro h1.shape (And.intro h2.shape h3.shape))
    simp only [mksP, mksK_length, mksB_length] at ea eb ec ed
    have A0 := Lib.hid (h0.kept B0)
    have A1 := Lib.hid (h1.kept B0)
    have A2 := Lib.hid (h2.kept B0)
    have A3 := Lib.hid (h3.kept B0)
    have GG := Lib.hid (And.intro GB (And.intro GD hu))
    have LL := Lib.hid (And.intro l0 (And.intro l1 (And.intro l2 l3)))
    clear h0 h1 h2 h3 GB GD hu l0 l1 l2 l3 B0
    subst ea eb ec ed
    go_enter Try.func14, Try.ntmps14
    have c0 := X.out.at 0 rfl; have c1 := X.out.at 1 rfl; have c2 := X.out.at 2 rfl; have c3 := X.out.at 3 rfl; have c4 := X.out.at 4 rfl; have c5 := X.out.at 5 rfl
    go_wp2_with fail
    refine (heldIn9 (k := (1)) A0.out (by have := LL.out; omega) (by have := LL.out; omega)).mono ?_
    rintro e w1 ⟨rfl, rfl⟩
    go_wp2_with fail
    refine (heldIn9 (k := (1 + r.W.length)) A1.out (by have := LL.out; omega) (by have := LL.out; omega)).mono ?_
    rintro e w1 ⟨rfl, rfl⟩
    go_wp2_with fail
    refine (heldIn9 (k := (1 + r.W.length + r.E.length)) A2.out (by have := LL.out; omega) (by have := LL.out; omega)).mono ?_
    rintro e w1 ⟨rfl, rfl⟩
    go_wp2_with fail
    refine (heldInB (k := (1 + r.W.length + r.E.length + r.G.length)) A3.out (by have := LL.out; omega)).mono ?_
    rintro e w1 ⟨rfl, rfl⟩
    go_wp2
    go_ret
    exact ⟨by rw [← SZ.out]; rfl, BB.out⟩
def nilPL : PL := ⟨0, 0, [], [], [], []⟩
theorem nil_prow (w : World) : PRow w (.slice none 0 0) (.slice none 0 0) (.slice none 0 0) (.slice none 0 0) nilPL := ⟨.inl ⟨⟨_, _, rfl⟩, rfl⟩, .inl ⟨⟨_, _, rfl⟩, rfl⟩, .inl ⟨⟨_, _, rfl⟩, rfl⟩, .inl ⟨⟨_, _, rfl⟩, rfl⟩⟩
theorem PX.nil {h u : Nat} {w : World} : PX h u w (.slice none 0 0) (.slice none 0 0) (.slice none 0 0) (.slice none 0 0) nilPL := .inl ⟨⟨rfl, rfl, rfl, rfl⟩, rfl, rfl, rfl, rfl⟩
/-- a plate and a bool, as the specification hands them back -/
def PdB (ok : Bool) (r : PL) (w : World) (e : Ending) (w' : World) : Prop := ∃ a b c d, e = .returned (.tuple #[.agg #[.int .i64 r.X, .int .i64 r.Y, a, b, c, d], .bool ok]) ∧ PRow w' a b c d r ∧ Below w.heap.size w w'
/-- .. the plate lies in memory of its own -/
def PdO (ok : Bool) (r : PL) (w : World) (e : Ending) (w' : World) : Prop := ∃ a b c d, e = .returned (.tuple #[.agg #[.int .i64 r.X, .int .i64 r.Y, a, b, c, d], .bool ok]) ∧ PX w.heap.size w'.heap.size w' a b c d r ∧ Below w.heap.size w w'
end Go.Proofs.Ythfkmcpajookaaa
