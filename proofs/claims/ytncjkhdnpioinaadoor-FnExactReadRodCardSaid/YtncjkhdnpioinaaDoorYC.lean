/- Several texts in one, for a claim holds 60 files at most: HexM Tabs Fl Fc Run Ord Num Ext Same Cell Fr Loose LooseB AppU CatU Fmt16 HexW By CutZ DecM Dec DecI TabsE RdM RdI RlM RnM AppZ CutW Sl AppB Onl MarkO RnS. -/
import Derived.Lib.Repeat
import Derived.Test.YtncjkhdnpioinaaDoorRows
import Derived.Shelf.Strconv.Itoa4
import Derived.Lib.SmallJoins
import Derived.Stop.LaidErr
import Derived.LaidMore
import Derived.WalkKit
import Derived.WalkLawsBesides
import Derived.Deep.Draws
import Derived.ProofKit
import Derived.OpenShut
import Derived.ShutString
import Derived.ChangeOld
import Derived.Below
import Derived.Lib.Hide
import Derived.Deep.OwnRows
import Derived.Deep.Slices
import Derived.Deep.QuietTactic
import Derived.BigQuiet
import Derived.Laws.OwnMore
import Derived.Laws.BytesArg
import Derived.Laws.IdiomStrings
import Derived.ArgAppend
import Derived.Test.YtncjkhdnpioinaaDoorShelf
import Derived.Lib.SplitLaws
import Derived.Lib.IndexMore
import Derived.Lib.CutLaws
import Derived.Lib.ItoaNum
import Derived.Lib.ItoaLen
import Derived.Lib.AtoiTie
import Derived.Lib.ParseIntBTie
import Derived.Test.YtncjkhdnpioinaaDoorShelfP

/- Eight hexadecimal digits. No program stands in this text. -/
namespace Go.Proofs.YtncjkhdnpioinaaDoor
open Go

/-- a digit's byte -/
def hd (d : Nat) : Int := if d < 10 then 48 + (d : Int) else 87 + (d : Int)
theorem hd_lo (d : Nat) : 0 ≤ hd d := by unfold hd; split <;> omega
theorem hd_hi (d : Nat) (h : d < 16) : hd d < 256 := by unfold hd; split <;> omega
/-- the digit of 16^e -/
def hx (u e : Nat) : Int := hd (u / 16 ^ e % 16)
theorem hx_zero {u k e : Nat} (h : u < 16 ^ (k + 1)) (he : k < e) : hx u e = 48 := by
  have : u < 16 ^ e := Nat.lt_of_lt_of_le h (Nat.pow_le_pow_right (by decide) he)
  unfold hx
  rw [Nat.div_eq_of_lt this]
  rfl
/-- the last digits, from that of 16^k on -/
def hexK (u : Nat) : Nat → List Int
  | 0 => [hx u 0]
  | k + 1 => hx u (k + 1) :: hexK u k
def hexL (u : Nat) : List Int := hexK u 7
theorem hexK_len (u : Nat) : ∀ k, (hexK u k).length = k + 1
  | 0 => rfl
  | k + 1 => by unfold hexK; rw [List.length_cons, hexK_len u k]
theorem hexK_at (u : Nat) : ∀ (k i : Nat), i ≤ k → (hexK u k)[i]? = some (hx u (k - i))
  | 0, 0, _ => rfl
  | k + 1, 0, _ => rfl
  | k + 1, i + 1, h => by
    unfold hexK
    rw [List.getElem?_cons_succ, hexK_at u k i (by omega), show k + 1 - (i + 1) = k - i from by omega]
theorem hexK_pad {u k : Nat} (h : u < 16 ^ (k + 1)) : ∀ n, hexK u (k + n) = List.replicate n 48 ++ hexK u k
  | 0 => rfl
  | n + 1 => by
    show hx u (k + n + 1) :: hexK u (k + n) = _
    rw [hexK_pad h n, hx_zero h (by omega), List.replicate_succ]
    rfl
theorem hexL_pad {u k : Nat} (hk : k ≤ 7) (h : u < 16 ^ (k + 1)) : hexL u = List.replicate (8 - (k + 1)) 48 ++ hexK u k := by
  unfold hexL
  rw [show 7 = k + (7 - k) from by omega, hexK_pad h, show 8 - (k + 1) = 7 - k from by omega]
theorem hexL_take (u m : Nat) (hm : m < 8) : (hexL u).take (m + 1) = (hexL u).take m ++ [hx u (7 - m)] := by
  rw [List.take_add_one, hexL, hexK_at u 7 m (by omega)]
  rfl
theorem hexL_len (u : Nat) : (hexL u).length = 8 := hexK_len u 7
end Go.Proofs.YtncjkhdnpioinaaDoor

/- What the listed tables of Go's library hold. -/
namespace Go.Proofs.YtncjkhdnpioinaaDoor
open Go.RowKit
set_option linter.unusedVariables false
def dbr64 : List Int := [0, 1, 56, 2, 57, 49, 28, 3, 61, 58, 42, 50, 38, 29, 17, 4, 62, 47, 59, 36, 45, 43, 51, 22, 53, 39, 33, 30, 24, 18, 12, 5, 63, 55, 48, 27, 60, 41, 37, 16, 46, 35, 44, 21, 52, 32, 23, 11, 54, 26, 40, 15, 34, 20, 31, 10, 25, 14, 19, 9, 13, 8, 7, 6]
/-- the tables that are read -/
structure Tabs (w : World) : Prop where
  p10 : Lib.TabIs Tryd.prog w "internal/strconv.uint64pow10" .u64 Lib.pow10Tab
  d64 : Lib.TabIs Tryd.prog w "math/bits.deBruijn64tab" .u8 dbr64
theorem Tabs.below {w w' : World} (h : Tabs w) (hb : Below w.heap.size w w') : Tabs w' :=
  ⟨Joins.tab_stays (g := 6) (by kernel_rfl) h.p10 hb (Nat.le_refl _), Joins.tab_stays (g := 8) (by kernel_rfl) h.d64 hb (Nat.le_refl _)⟩
theorem tabs {w : World} (h : laidMetH Tryd.prog [("math/bits.deBruijn32tab", Rows.laid_math_bits_deBruijn32tab), ("math/bits.deBruijn64tab", Rows.laid_math_bits_deBruijn64tab), ("internal/strconv.uint64pow10", Rows.laid_internal_strconv_uint64pow10)] w) : Tabs w := by
  rw [MakeChecks.laidMetH_plain _ _ _ (by kernel_rfl)] at h
  have h2 := h.tail
  have h3 := h2.tail
  exact ⟨Lib.tabIs_of_head (zs := Lib.pow10Tab) (g := 6) (t := 257) (e := 225) (n := 20) (by kernel_rfl) (by kernel_rfl) (by kernel_rfl) (by kernel_rfl) (by kernel_rfl) (by kernel_rfl) h3,
    Lib.tabIs_of_head (zs := dbr64) (g := 8) (t := 265) (e := 5) (n := 64) (by kernel_rfl) (by kernel_rfl) (by kernel_rfl) (by kernel_rfl) (by kernel_rfl) (by kernel_rfl) h2⟩
end Go.Proofs.YtncjkhdnpioinaaDoor

/- Plain facts on the model's floats: canonical bits (one not-a-number), operations on them, and the walk's rules that give a result up to the bits of a not-a-number. -/
namespace Go.Proofs.YtncjkhdnpioinaaDoor
open Go

/-- is it a not-a-number -/
def nn (k : FloatKind) (b : Nat) : Bool := (k.decode b).isNaN
/-- the one not-a-number -/
def qn : FloatKind → Nat
  | .f32 => 0x7fc00000
  | .f64 => 0x7ff8000000000001
/-- canonical bits -/
def cn (k : FloatKind) (b : Nat) : Nat := if nn k b then qn k else b
/-- an operation on bits, with the one not-a-number -/
def fop (op : BinOp) (k : FloatKind) (x y : Nat) : Nat := (floatBits op k x y).getD (qn k)

theorem read_word (f : Ieee.Format) (neg : Bool) (r : Nat) (h : r ≤ f.infRung) : (f.read (f.word neg r)).isNaN = false := by
  have h1 := Ieee.Format.infRung_lt f
  have hs : 0 < f.signWeight := Nat.two_pow_pos _
  have e : f.word neg r % f.signWeight = r := by
    unfold Ieee.Format.word
    split
    · rw [Nat.add_mod_left, Nat.mod_eq_of_lt (by omega)]
    · exact Nat.mod_eq_of_lt (by omega)
  unfold Ieee.Format.read
  simp only [e]
  split
  · rfl
  · split
    · rfl
    · split
      · rfl
      · omega

theorem read_write (f : Ieee.Format) (d : Ieee.Datum) (h : d.isNaN = false) : (f.read (f.write d)).isNaN = false := by
  cases d with
  | number neg mag place =>
    show (f.read (f.nearest neg mag place)).isNaN = false
    unfold Ieee.Format.nearest
    split
    · exact read_word f neg 0 (Nat.zero_le _)
    · exact read_word f neg _ (Nat.min_le_right _ _)
  | infinity neg => exact read_word f neg _ (Nat.le_refl _)
  | nan neg t => simp [Ieee.Datum.isNaN] at h

theorem sum_num {x y d : Ieee.Datum} (h : x.sum y = some d) : d.isNaN = false := by
  cases x <;> cases y <;> simp [Ieee.Datum.sum] at h <;> (try (obtain ⟨_, rfl⟩ := h)) <;> (try subst h) <;> rfl

theorem product_num {x y d : Ieee.Datum} (h : x.product y = some d) : d.isNaN = false := by
  cases x <;> cases y <;> simp [Ieee.Datum.product] at h <;> (try (obtain ⟨_, rfl⟩ := h)) <;> (try subst h) <;> rfl

theorem quotient_num {n : Nat} {x y d : Ieee.Datum} (h : x.quotient n y = some d) : d.isNaN = false := by
  cases x <;> cases y <;> simp [Ieee.Datum.quotient] at h
  · rename_i s m i t k j
    by_cases hk : k = 0
    · by_cases hm : m = 0
      · simp [hk, hm] at h
      · simp [hk, hm] at h; subst h; rfl
    · simp [hk] at h; subst h; rfl
  all_goals (subst h; rfl)

theorem root_num {n : Nat} {x d : Ieee.Datum} (h : x.root n = some d) : d.isNaN = false := by
  cases x with
  | number s m i =>
    simp only [Ieee.Datum.root] at h
    split at h
    · cases h; rfl
    · split at h
      · cases h
      · cases h; rfl
  | infinity s => simp only [Ieee.Datum.root] at h; split at h <;> cases h; rfl
  | nan s t => simp [Ieee.Datum.root] at h

theorem floatBits_num {op : BinOp} {k : FloatKind} {x y r : Nat} (h : floatBits op k x y = some r) : nn k r = false := by
  unfold floatBits at h
  unfold nn FloatKind.decode
  cases op <;> simp only at h <;> first | (cases h; done) | skip
  all_goals
    simp only [Ieee.Format.add, Ieee.Format.sub, Ieee.Format.mul, Ieee.Format.div, Option.map_eq_some_iff] at h
    obtain ⟨d, hd, rfl⟩ := h
  · exact read_write _ _ (sum_num hd)
  · exact read_write _ _ (sum_num hd)
  · exact read_write _ _ (product_num hd)
  · exact read_write _ _ (quotient_num hd)

theorem nn_qn (k : FloatKind) : nn k (qn k) = true := by cases k <;> rfl

theorem cn_of_num {k : FloatKind} {b : Nat} (h : nn k b = false) : cn k b = b := by simp [cn, h]
theorem cn_of_nan {k : FloatKind} {b : Nat} (h : nn k b = true) : cn k b = qn k := by simp [cn, h]

theorem nn_cn (k : FloatKind) (b : Nat) : nn k (cn k b) = nn k b := by
  unfold cn; split
  · rename_i h; rw [nn_qn, h]
  · rfl
theorem cn_cn (k : FloatKind) (b : Nat) : cn k (cn k b) = cn k b := by
  have := nn_cn k b
  cases h : nn k b
  · rw [cn_of_num h, cn_of_num h]
  · rw [cn_of_nan h, cn_of_nan (nn_qn k)]

theorem decode_nan {k : FloatKind} {b : Nat} (h : nn k b = true) : ∃ s t, k.format.read b = .nan s t := by
  unfold nn FloatKind.decode at h
  cases e : k.format.read b <;> simp [e, Ieee.Datum.isNaN] at h
  exact ⟨_, _, rfl⟩

theorem floatBits_nan_left {op : BinOp} {k : FloatKind} {x y : Nat} (h : nn k x = true) : floatBits op k x y = none := by
  obtain ⟨s, t, e⟩ := decode_nan h
  unfold floatBits
  cases op <;> simp only <;> cases hy : k.format.read y <;> simp [Ieee.Format.add, Ieee.Format.sub, Ieee.Format.mul, Ieee.Format.div, e, hy, Ieee.Datum.sum, Ieee.Datum.product, Ieee.Datum.quotient]

theorem floatBits_nan_right {op : BinOp} {k : FloatKind} {x y : Nat} (h : nn k y = true) : floatBits op k x y = none := by
  obtain ⟨s, t, e⟩ := decode_nan h
  unfold floatBits
  cases op <;> simp only <;> cases hx : k.format.read x <;> simp [Ieee.Format.add, Ieee.Format.sub, Ieee.Format.mul, Ieee.Format.div, e, hx, Ieee.Datum.sum, Ieee.Datum.product, Ieee.Datum.quotient, Ieee.Datum.opposite]

theorem floatBits_cn (op : BinOp) (k : FloatKind) (x y : Nat) : floatBits op k (cn k x) (cn k y) = floatBits op k x y := by
  cases hx : nn k x
  · cases hy : nn k y
    · rw [cn_of_num hx, cn_of_num hy]
    · rw [floatBits_nan_right hy, floatBits_nan_right (by rw [nn_cn]; exact hy)]
  · rw [floatBits_nan_left hx, floatBits_nan_left (by rw [nn_cn]; exact hx)]

theorem order_cn (k : FloatKind) (x y : Nat) : k.format.order (cn k x) (cn k y) = k.format.order x y := by
  have L : ∀ a b, nn k a = true → k.format.order a b = none := fun a b h => by
    obtain ⟨s, t, e⟩ := decode_nan h
    cases hb : k.format.read b <;> simp [Ieee.Format.order, e, hb, Ieee.Datum.order]
  have R : ∀ a b, nn k b = true → k.format.order a b = none := fun a b h => by
    obtain ⟨s, t, e⟩ := decode_nan h
    cases ha : k.format.read a <;> simp [Ieee.Format.order, e, ha, Ieee.Datum.order]
  cases hx : nn k x
  · cases hy : nn k y
    · rw [cn_of_num hx, cn_of_num hy]
    · rw [R _ _ hy, R _ _ (by rw [nn_cn]; exact hy)]
  · rw [L _ _ hx, L _ _ (by rw [nn_cn]; exact hx)]

theorem order_self {k : FloatKind} {x : Nat} : k.format.order x x = if nn k x then none else some .eq := by
  unfold nn FloatKind.decode Ieee.Format.order
  cases k.format.read x with
  | number s m i => simp [Ieee.Datum.order, Ieee.Datum.isNaN, compare, compareOfLessAndEq]
  | infinity s => cases s <;> simp [Ieee.Datum.order, Ieee.Datum.isNaN, compare, compareOfLessAndEq]
  | nan s t => simp [Ieee.Datum.order, Ieee.Datum.isNaN]

/-- the bits that the tape gives for a not-a-number are one -/
theorem nan_cut (k : FloatKind) (q : Question) (t : Nat) (hq : ∀ t, q.cut t = (Question.nanBits k 0 0).cut t) : nn k (q.cut t) = true ∧ (Lit.float k (q.cut t)).wf = true := by
  rw [hq]
  cases k
  · have hm : t / 2 % (2 ^ 23 - 1) < 2 ^ 23 - 1 := Nat.mod_lt _ (by decide)
    have ht : t % 2 < 2 := Nat.mod_lt _ (by decide)
    simp only [Question.cut]
    generalize t / 2 % (2 ^ 23 - 1) = a at *
    generalize t % 2 = b at *
    have sw : Ieee.single.signWeight = 2147483648 := by decide
    have bn : Ieee.single.binade = 8388608 := by decide
    have ir : Ieee.single.infRung = 2139095040 := by decide
    have e : (b * 2 ^ 31 + 0x7f800000 + 1 + a) % 2147483648 = 0x7f800000 + 1 + a := by omega
    constructor
    · unfold nn FloatKind.decode FloatKind.format Ieee.Format.read
      simp only [sw, bn, ir, e]
      rw [if_neg (by omega), if_neg (by omega), if_neg (by omega)]
      rfl
    · simp [Lit.wf]; omega
  · have hm : t / 2 % (2 ^ 52 - 1) < 2 ^ 52 - 1 := Nat.mod_lt _ (by decide)
    have ht : t % 2 < 2 := Nat.mod_lt _ (by decide)
    simp only [Question.cut]
    generalize t / 2 % (2 ^ 52 - 1) = a at *
    generalize t % 2 = b at *
    have sw : Ieee.double.signWeight = 9223372036854775808 := by decide
    have bn : Ieee.double.binade = 4503599627370496 := by decide
    have ir : Ieee.double.infRung = 9218868437227405312 := by decide
    have e : (b * 2 ^ 63 + 0x7ff0000000000000 + 1 + a) % 9223372036854775808 = 0x7ff0000000000000 + 1 + a := by omega
    constructor
    · unfold nn FloatKind.decode FloatKind.format Ieee.Format.read
      simp only [sw, bn, ir, e]
      rw [if_neg (by omega), if_neg (by omega), if_neg (by omega)]
      rfl
    · simp [Lit.wf]; omega


def isArith : BinOp → Bool
  | .add | .sub | .mul | .quo => true
  | _ => false

/-- r are bits of the result of an operation -/
def FR (op : BinOp) (k : FloatKind) (m n r : Nat) : Prop := cn k r = fop op k (cn k m) (cn k n) ∧ (Lit.float k r).wf = true

theorem FR_some {op : BinOp} {k : FloatKind} {m n r : Nat} (h : floatBits op k m n = some r) : FR op k m n r :=
  ⟨by rw [fop, floatBits_cn, h, cn_of_num (floatBits_num h)]; rfl, floatBits_wf h⟩
theorem FR_none {op : BinOp} {k : FloatKind} {m n r : Nat} (h : floatBits op k m n = none) (hr : nn k r = true) (hw : (Lit.float k r).wf = true) : FR op k m n r :=
  ⟨by rw [fop, floatBits_cn, h, cn_of_nan hr]; rfl, hw⟩

@[go_sem] theorem run_store_float {P : Program} {w : World} {a : Addr} {m : Mode} (k : FloatKind) (b : Nat) : (store a (.float k b) m).run P w = stored P w a (.float k b) m := run_store P w a _ m rfl
@[go_sem] theorem run_store_complex {P : Program} {w : World} {a : Addr} {m : Mode} (k : FloatKind) (b c : Nat) : (store a (.complex k b c) m).run P w = stored P w a (.complex k b c) m := run_store P w a _ m rfl

section
variable {P : Program}
theorem run_choose {α : Type} (q : Question) (hq : q.forced = false) (f : Nat → α) (w : World) :
    (Sem.bind (choose q) fun t => Sem.pure (f t)).run P w = .ok (f (q.cut (w.tape w.drawn q))) (w.drewN 1) := by
  simp [choose, Sem.bind, Sem.run, hq]
  rfl

theorem run_farith (op : BinOp) (hop : isArith op = true) (t : TypeId) (k : FloatKind) (m n : Nat) (w : World) :
    ∃ r j, FR op k m n r ∧ (binOp op t (.float k m) (.float k n)).run P w = .ok (.float k r) (w.drewN j) := by
  cases h : floatBits op k m n with
  | some r => exact ⟨r, 0, FR_some h, run_float_arith w op t k m n r h⟩
  | none =>
    refine ⟨(Question.nanBits k m n).cut (w.tape w.drawn (.nanBits k m n)), 1, ?_, ?_⟩
    · have := nan_cut k (.nanBits k m n) (w.tape w.drawn (.nanBits k m n)) (by intro t; cases k <;> rfl)
      exact FR_none h this.1 this.2
    · have e : (binOp op t (.float k m) (.float k n)) = (Sem.bind (choose (.nanBits k m n)) fun t => Sem.pure (.float k t)) := by
        unfold floatBits at h
        cases op <;> simp [isArith] at hop <;> simp only at h <;> simp [binOp, Op.floatArith, h] <;> rfl
      rw [e]
      exact run_choose _ (by cases k <;> rfl) _ w

variable {ops : Array Oper} {Q : Exit → Act → World → Prop} {rest : List Oper} {o : Oper} {a : Act} {w : World}
theorem wp_farith {K : Act → World → Prop} (op : BinOp) (t : TypeId) (x y : Operand) (t' : TypeId) (ho : o.op = .binOp op t x y t') (hop : isArith op = true) (k : FloatKind) (m n : Nat)
    (hx : a.eval x = .float k m) (hy : a.eval y = .float k n) (h : ∀ r j, FR op k m n r → K (a.put o.dst (.float k r)) (w.drewN j)) : o.wp P a w K Q := by
  obtain ⟨r, j, hr, hw⟩ := run_farith (P := P) op hop t k m n w
  unfold Oper.wp execOp
  have hg : (eqGuard op t x y (.float k m) (.float k n)) = pure () := by
    cases op <;> simp [isArith] at hop <;> rfl
  simp only [ho, hx, hy, hg, Sem.run_bind, Sem.run_pure, Result.andThen_ok, hw]
  exact h r j hr

theorem wpList_farith (hgd : o.guard = none) (op : BinOp) (t : TypeId) (x y : Operand) (t' : TypeId) (ho : o.op = .binOp op t x y t') (hop : isArith op = true) (k : FloatKind) (m n : Nat)
    (hx : a.eval x = .float k m) (hy : a.eval y = .float k n) (h : ∀ r j, FR op k m n r → wpList P ops Q rest (a.put o.dst (.float k r)) (w.drewN j)) : wpList P ops Q (o :: rest) a w :=
  wpList_plain hgd fun _ hK => wp_farith op t x y t' ho hop k m n hx hy fun r j hr => hK _ _ (h r j hr)

end
end Go.Proofs.YtncjkhdnpioinaaDoor

/- Conversions between the two float kinds, and the walk's rules for them. -/
namespace Go.Proofs.YtncjkhdnpioinaaDoor
open Go

theorem read_word_fin (f : Ieee.Format) (neg : Bool) (r : Nat) (h : r < f.infRung) : (f.read (f.word neg r)).isInfinity = false := by
  have h1 := Ieee.Format.infRung_lt f
  have hs : 0 < f.signWeight := Nat.two_pow_pos _
  have e : f.word neg r % f.signWeight = r := by
    unfold Ieee.Format.word
    split
    · rw [Nat.add_mod_left, Nat.mod_eq_of_lt (by omega)]
    · exact Nat.mod_eq_of_lt (by omega)
  unfold Ieee.Format.read
  simp only [e]
  split
  · rfl
  · first | rfl | (rw [if_pos h]; rfl)

theorem read_single_bounds {b : Nat} {s : Bool} {m : Nat} {e : Int} (h : Ieee.single.read b = .number s m e) : m < 2 ^ 24 ∧ -149 ≤ e ∧ e ≤ 104 := by
  have sw : Ieee.single.signWeight = 2147483648 := by decide
  have bn : Ieee.single.binade = 8388608 := by decide
  have ir : Ieee.single.infRung = 2139095040 := by decide
  have lp : Ieee.single.leastPlace = -149 := by decide
  unfold Ieee.Format.read at h
  simp only [sw, bn, ir, lp] at h
  split at h
  · simp only [Ieee.Datum.number.injEq] at h
    omega
  · split at h
    · simp only [Ieee.Datum.number.injEq] at h
      omega
    · split at h <;> simp at h

theorem cut_zero (neg : Bool) (n : Nat) : Ieee.Toward.even.cut neg n 0 = n := by
  unfold Ieee.Toward.cut
  simp [Nat.mod_one]

theorem up_num (T K : Nat) (hT : T ≤ 1149) (hK : K < 9007199254740992) : min (T * 4503599627370496 + K) 9218868437227405312 < 9218868437227405312 :=
  Nat.lt_of_le_of_lt (Nat.min_le_left _ _) (by omega)

theorem up_kept (m : Nat) (hl : m.log2 < 24) : m * 2 ^ (52 - m.log2) < 9007199254740992 := by
  have hup : m < 2 ^ (m.log2 + 1) := Nat.lt_log2_self
  have h : m * 2 ^ (52 - m.log2) < 2 ^ (m.log2 + 1) * 2 ^ (52 - m.log2) := Nat.mul_lt_mul_of_pos_right hup (Nat.two_pow_pos _)
  rw [← Nat.pow_add, show m.log2 + 1 + (52 - m.log2) = 53 by omega] at h
  exact h

theorem double_inf : Ieee.double.infRung = 9218868437227405312 := by decide
theorem double_binade : Ieee.double.binade = 4503599627370496 := by decide
theorem double_least : Ieee.double.leastPlace = -1074 := by decide
theorem double_fraction : (Ieee.double.fractionBits : Int) = 52 := by decide

theorem up_nearest (s : Bool) (m : Nat) (e : Int) (hz : m ≠ 0) (hl : m.log2 < 24) (h0 : -149 ≤ e) (h1 : e ≤ 104) :
    ∃ r, Ieee.double.nearest s m e = Ieee.double.word s r ∧ r < 9218868437227405312 := by
  have e1 : max (e + (m.log2 : Int) - 52) (-1074) = e + (m.log2 : Int) - 52 := by omega
  have e2 : (e + (m.log2 : Int) - 52 - e).toNat = 0 := by omega
  have e3 : (e - (e + (m.log2 : Int) - 52)).toNat = 52 - m.log2 := by omega
  have e4 : (e + (m.log2 : Int) - 52 - -1074).toNat ≤ 1149 := by omega
  refine ⟨min ((e + (m.log2 : Int) - 52 - -1074).toNat * 4503599627370496 + m * 2 ^ (52 - m.log2)) 9218868437227405312, ?_, up_num _ _ e4 (up_kept m hl)⟩
  unfold Ieee.Format.nearest
  rw [if_neg hz]
  simp only [double_least, double_fraction, double_binade, double_inf, e1, e2, e3, cut_zero, Nat.shiftLeft_eq]

theorem up_fits (s : Bool) (m : Nat) (e : Int) (hm : m < 2 ^ 24) (h0 : -149 ≤ e) (h1 : e ≤ 104) : (Ieee.double.read (Ieee.double.write (.number s m e))).isInfinity = false := by
  show (Ieee.double.read (Ieee.double.nearest s m e)).isInfinity = false
  by_cases hz : m = 0
  · subst hz
    exact read_word_fin Ieee.double s 0 (by rw [double_inf]; omega)
  · obtain ⟨r, er, hr⟩ := up_nearest s m e hz ((Nat.log2_lt hz).2 hm) h0 h1
    rw [er]
    exact read_word_fin _ _ _ (by rw [double_inf]; exact hr)

theorem up_some {b : Nat} (h : nn .f32 b = false) : ∃ r, floatToFloatBits .f32 b .f64 = some r := by
  unfold floatToFloatBits
  rw [if_neg (by decide)]
  unfold nn at h
  cases e : FloatKind.f32.decode b with
  | nan s t => rw [e] at h; simp [Ieee.Datum.isNaN] at h
  | infinity s => exact ⟨_, rfl⟩
  | number s m i =>
    obtain ⟨hm, h0, h1⟩ := read_single_bounds (show Ieee.single.read b = _ from e)
    have hf := up_fits s m i hm h0 h1
    simp only
    rw [if_neg (by rw [show FloatKind.f64.decode (FloatKind.f64.encode (.number s m i)) = Ieee.double.read (Ieee.double.write (.number s m i)) from rfl, hf]; simp)]
    exact ⟨_, rfl⟩

theorem ftf_num {s d : FloatKind} {b r : Nat} (hsd : s ≠ d) (h : floatToFloatBits s b d = some r) : nn d r = false := by
  unfold floatToFloatBits at h
  rw [if_neg hsd] at h
  split at h
  · cases h
  · cases h; exact read_write _ _ rfl
  · split at h
    · cases h
    · cases h; exact read_write _ _ rfl

theorem ftf_nan {s d : FloatKind} {b : Nat} (hsd : s ≠ d) (h : nn s b = true) : floatToFloatBits s b d = none := by
  obtain ⟨sg, t, e⟩ := decode_nan h
  unfold floatToFloatBits FloatKind.decode
  rw [if_neg hsd, e]

/-- a 32-bit number made a 64-bit one -/
def cvu (b : Nat) : Nat := (floatToFloatBits .f32 b .f64).getD (qn .f64)
/-- narrowing, of what is not too great -/
def cvd (b : Nat) : Nat := (floatToFloatBits .f64 b .f32).getD (qn .f32)
/-- too great to be narrowed -/
def ovf (b : Nat) : Bool := !nn .f64 b && (floatToFloatBits .f64 b .f32).isNone

def UR (m r : Nat) : Prop := cn .f64 r = cvu (cn .f32 m) ∧ (Lit.float .f64 r).wf = true
def DR (m r : Nat) : Prop := (ovf (cn .f64 m) = false → cn .f32 r = cvd (cn .f64 m)) ∧ (Lit.float .f32 r).wf = true

section
variable {P : Program}
theorem nan_conv_wf (k : FloatKind) (b t : Nat) : nn k ((Question.nanConv k b).cut t) = true ∧ (Lit.float k ((Question.nanConv k b).cut t)).wf = true :=
  nan_cut k (.nanConv k b) t (by intro t; cases k <;> rfl)

theorem run_cvt_nan {S D : TypeId} {s d : FloatKind} (hs : P.underlying S = some (.float s)) (hd : P.underlying D = some (.float d)) (hsd : s ≠ d) (b : Nat) (w : World) (h : nn s b = true) :
    (convert S D (.float s b)).run P w = .ok (.float d ((Question.nanConv d b).cut (w.tape w.drawn (.nanConv d b)))) (w.drewN 1) := by
  obtain ⟨sg, t, e⟩ := decode_nan h
  have e' : (convert S D (.float s b)).run P w = (Sem.bind (choose (.nanConv d b)) fun t => Sem.pure (.float d t)).run P w := by
    simp only [convert, Sem.run_bind, run_underlying hs, run_underlying hd, Result.andThen_ok, Conv.floatToFloat, if_neg hsd]
    rw [show s.decode b = .nan sg t from e]
    rfl
  rw [e']
  exact run_choose _ (by cases d <;> rfl) _ w

theorem run_up {S D : TypeId} (hs : P.underlying S = some (.float .f32)) (hd : P.underlying D = some (.float .f64)) (m : Nat) (w : World) :
    ∃ r j, UR m r ∧ (convert S D (.float .f32 m)).run P w = .ok (.float .f64 r) (w.drewN j) := by
  cases h : nn .f32 m
  · obtain ⟨r, hr⟩ := up_some h
    refine ⟨r, 0, ⟨?_, ?_⟩, run_convert_float_float w S D .f32 .f64 m r (by rw [hs]; rfl) hd hr⟩
    · rw [cn_of_num h, cn_of_num (ftf_num (by decide) hr), cvu, hr]; rfl
    · unfold floatToFloatBits at hr
      rw [if_neg (by decide)] at hr
      split at hr
      · cases hr
      · cases hr; exact encode_wf ..
      · split at hr
        · cases hr
        · cases hr; exact encode_wf ..
  · have hc := nan_conv_wf .f64 m (w.tape w.drawn (.nanConv .f64 m))
    refine ⟨_, 1, ⟨?_, hc.2⟩, run_cvt_nan hs hd (by decide) m w h⟩
    rw [cn_of_nan hc.1, cn_of_nan h, cvu, ftf_nan (by decide) (nn_qn _)]; rfl

theorem run_down {S D : TypeId} (hs : P.underlying S = some (.float .f64)) (hd : P.underlying D = some (.float .f32)) (m : Nat) (w : World) :
    ∃ r j, DR m r ∧ (convert S D (.float .f64 m)).run P w = .ok (.float .f32 r) (w.drewN j) := by
  cases h : nn .f64 m
  · cases hr : floatToFloatBits .f64 m .f32 with
    | some r =>
      refine ⟨r, 0, ⟨fun _ => ?_, ?_⟩, run_convert_float_float w S D .f64 .f32 m r (by rw [hs]; rfl) hd hr⟩
      · rw [cn_of_num h, cn_of_num (ftf_num (by decide) hr), cvd, hr]; rfl
      · unfold floatToFloatBits at hr
        rw [if_neg (by decide)] at hr
        split at hr
        · cases hr
        · cases hr; exact encode_wf ..
        · split at hr
          · cases hr
          · cases hr; exact encode_wf ..
    | none =>
      refine ⟨(Question.floatToFloat m).cut (w.tape w.drawn (.floatToFloat m)), 1, ⟨fun ho => ?_, ?_⟩, ?_⟩
      · rw [cn_of_num h] at ho
        simp [ovf, h, hr] at ho
      · have : (Question.floatToFloat m).cut (w.tape w.drawn (.floatToFloat m)) < 2 ^ 32 := Nat.mod_lt _ (by decide)
        simpa [Lit.wf] using this
      · have e' : (convert S D (.float .f64 m)).run P w = (Sem.bind (choose (.floatToFloat m)) fun t => Sem.pure (.float .f32 t)).run P w := by
          simp only [convert, Sem.run_bind, run_underlying hs, run_underlying hd, Result.andThen_ok, Conv.floatToFloat]
          rw [if_neg (by decide)]
          unfold floatToFloatBits at hr
          rw [if_neg (by decide)] at hr
          split at hr
          · rename_i he; unfold nn at h; rw [he] at h; simp [Ieee.Datum.isNaN] at h
          · cases hr
          · rename_i sg mm ee he
            split at hr
            · rename_i hi
              rw [he]
              simp only [hi, if_true]
              rfl
            · cases hr
        rw [e']
        exact run_choose _ rfl _ w
  · have hc := nan_conv_wf .f32 m (w.tape w.drawn (.nanConv .f32 m))
    refine ⟨_, 1, ⟨fun _ => ?_, hc.2⟩, run_cvt_nan hs hd (by decide) m w h⟩
    rw [cn_of_nan hc.1, cn_of_nan h, cvd, ftf_nan (by decide) (nn_qn _)]; rfl

variable {ops : Array Oper} {Q : Exit → Act → World → Prop} {rest : List Oper} {o : Oper} {a : Act} {w : World}
theorem wp_up {K : Act → World → Prop} {S D : TypeId} (hs : P.underlying S = some (.float .f32)) (hd : P.underlying D = some (.float .f64)) (x : Operand) (ho : o.op = .convert S D x) (m : Nat)
    (hx : a.eval x = .float .f32 m) (h : ∀ r j, UR m r → K (a.put o.dst (.float .f64 r)) (w.drewN j)) : o.wp P a w K Q := by
  obtain ⟨r, j, hr, hw⟩ := run_up hs hd m w
  unfold Oper.wp execOp
  simp only [ho, hx, Sem.run_bind, Sem.run_pure, Result.andThen_ok, hw]
  exact h r j hr
theorem wpList_up (hgd : o.guard = none) {S D : TypeId} (hs : P.underlying S = some (.float .f32)) (hd : P.underlying D = some (.float .f64)) (x : Operand) (ho : o.op = .convert S D x) (m : Nat)
    (hx : a.eval x = .float .f32 m) (h : ∀ r j, UR m r → wpList P ops Q rest (a.put o.dst (.float .f64 r)) (w.drewN j)) : wpList P ops Q (o :: rest) a w :=
  wpList_plain hgd fun _ hK => wp_up hs hd x ho m hx fun r j hr => hK _ _ (h r j hr)
theorem wp_down {K : Act → World → Prop} {S D : TypeId} (hs : P.underlying S = some (.float .f64)) (hd : P.underlying D = some (.float .f32)) (x : Operand) (ho : o.op = .convert S D x) (m : Nat)
    (hx : a.eval x = .float .f64 m) (h : ∀ r j, DR m r → K (a.put o.dst (.float .f32 r)) (w.drewN j)) : o.wp P a w K Q := by
  obtain ⟨r, j, hr, hw⟩ := run_down hs hd m w
  unfold Oper.wp execOp
  simp only [ho, hx, Sem.run_bind, Sem.run_pure, Result.andThen_ok, hw]
  exact h r j hr
theorem wpList_down (hgd : o.guard = none) {S D : TypeId} (hs : P.underlying S = some (.float .f64)) (hd : P.underlying D = some (.float .f32)) (x : Operand) (ho : o.op = .convert S D x) (m : Nat)
    (hx : a.eval x = .float .f64 m) (h : ∀ r j, DR m r → wpList P ops Q rest (a.put o.dst (.float .f32 r)) (w.drewN j)) : wpList P ops Q (o :: rest) a w :=
  wpList_plain hgd fun _ hK => wp_down hs hd x ho m hx fun r j hr => hK _ _ (h r j hr)
end
end Go.Proofs.YtncjkhdnpioinaaDoor

/- What every frame of this seat uses: the program's closed facts, and the post of a law's walk. -/
namespace Go.Proofs.YtncjkhdnpioinaaDoor
open Go.RowKit

theorem own : ownKnob Tryd.prog.godebug = none := by kernel_rfl
theorem laidOut : laidOutB Tryd.prog = true := by kernel_rfl

/-- the law answers true, and nothing that was there has turned -/
def Tru (w : World) (e : Ending) (w' : World) : Prop := e = .returned (.bool true) ∧ Below w.heap.size w w'

theorem below_drewN {B : Nat} {a w : World} (h : Below B a w) (n : Nat) : Below B a (w.drewN n) := ⟨h.os, h.tape, h.output, h.size, h.block⟩
theorem below_undrew {B : Nat} {a w : World} {n : Nat} (h : Below B (a.drewN n) w) : Below B a w := ⟨h.os, h.tape, h.output, h.size, h.block⟩
theorem below_step {w w1 w2 : World} (h : Below w.heap.size w w1) (h2 : Below w1.heap.size w1 w2) : Below w.heap.size w w2 := h.trans (h2.mono h.size)
theorem Tru.below {w w' : World} (h : Below w.heap.size w w') : Tru w (.returned (.bool true)) w' := ⟨rfl, h⟩
theorem Tru.same {w : World} : Tru w (.returned (.bool true)) w := ⟨rfl, Below.refl _ _⟩
theorem Tru.drewN {w : World} {n : Nat} : Tru w (.returned (.bool true)) (w.drewN n) := ⟨rfl, below_drewN (Below.refl _ _) n⟩

end Go.Proofs.YtncjkhdnpioinaaDoor

/- The order of two floats as the order of two integers that are read off their bits. -/
namespace Go.Proofs.YtncjkhdnpioinaaDoor

def mg (f : Ieee.Format) (r : Nat) : Nat := if r < f.binade then r else f.binade + r % f.binade
def ex (f : Ieee.Format) (r : Nat) : Nat := r / f.binade - 1
def vl (f : Ieee.Format) (r : Nat) : Nat := mg f r * 2 ^ ex f r

theorem binade_pos (f : Ieee.Format) : 0 < f.binade := Nat.two_pow_pos _

theorem vl_lt (f : Ieee.Format) {a b : Nat} (h : a < b) : vl f a < vl f b := by
  have hB := binade_pos f
  unfold vl mg ex
  generalize f.binade = B at *
  have ma := Nat.mod_lt a hB
  have mb := Nat.mod_lt b hB
  have da := Nat.div_add_mod a B
  have db := Nat.div_add_mod b B
  by_cases h1 : a < B
  · have ea : a / B = 0 := Nat.div_eq_of_lt h1
    rw [if_pos h1, ea]
    by_cases h2 : b < B
    · rw [if_pos h2, Nat.div_eq_of_lt h2]; simpa using h
    · rw [if_neg h2]
      have p : 0 < 2 ^ (b / B - 1) := Nat.two_pow_pos _
      have : B + b % B ≤ (B + b % B) * 2 ^ (b / B - 1) := Nat.le_mul_of_pos_right _ p
      simp only [Nat.zero_sub, Nat.pow_zero, Nat.mul_one]
      omega
  · have h2 : ¬ b < B := by omega
    rw [if_neg h1, if_neg h2]
    have qa : 1 ≤ a / B := (Nat.one_le_div_iff hB).2 (by omega)
    have qle : a / B ≤ b / B := Nat.div_le_div_right (by omega)
    by_cases hq : a / B = b / B
    · rw [hq] at da ⊢
      have : a % B < b % B := by omega
      exact Nat.mul_lt_mul_of_pos_right (by omega) (Nat.two_pow_pos _)
    · have l1 : (B + a % B) * 2 ^ (a / B - 1) < (B + B) * 2 ^ (a / B - 1) := Nat.mul_lt_mul_of_pos_right (by omega) (Nat.two_pow_pos _)
      have l2 : (B + B) * 2 ^ (a / B - 1) = B * 2 ^ (a / B) := by
        rw [← Nat.two_mul, Nat.mul_comm 2 B, Nat.mul_assoc, ← Nat.pow_succ']
        congr 2; omega
      have l3 : B * 2 ^ (a / B) ≤ B * 2 ^ (b / B - 1) := Nat.mul_le_mul_left _ (Nat.pow_le_pow_right (by decide) (by omega))
      have l4 : B * 2 ^ (b / B - 1) ≤ (B + b % B) * 2 ^ (b / B - 1) := Nat.mul_le_mul_right _ (by omega)
      omega

theorem vl_lt_iff (f : Ieee.Format) (a b : Nat) : vl f a < vl f b ↔ a < b := by
  refine ⟨fun h => ?_, vl_lt f⟩
  rcases Nat.lt_trichotomy a b with h1 | h1 | h1
  · exact h1
  · subst h1; omega
  · have := vl_lt f h1; omega

theorem scaled (f : Ieee.Format) (r n : Nat) (h : n ≤ ex f r) : (mg f r <<< (ex f r - n)) * 2 ^ n = vl f r := by
  unfold vl
  rw [Nat.shiftLeft_eq, Nat.mul_assoc, ← Nat.pow_add]
  congr 2; omega

/-- the integer that a word's place in the order is -/
def key (f : Ieee.Format) (x : Nat) : Int := if x / f.signWeight % 2 == 1 then -((x % f.signWeight : Nat) : Int) else ((x % f.signWeight : Nat) : Int)
def notNan (f : Ieee.Format) (x : Nat) : Prop := x % f.signWeight ≤ f.infRung

theorem read_fin (f : Ieee.Format) (x : Nat) (h : x % f.signWeight < f.infRung) :
    f.read x = .number (x / f.signWeight % 2 == 1) (mg f (x % f.signWeight)) (f.leastPlace + (ex f (x % f.signWeight) : Nat)) := by
  unfold Ieee.Format.read mg ex
  dsimp only
  by_cases h1 : x % f.signWeight < f.binade
  · rw [if_pos h1, if_pos h1, Nat.div_eq_of_lt h1]; simp
  · rw [if_neg h1, if_neg h1, if_pos h]

theorem read_inf (f : Ieee.Format) (x : Nat) (h : x % f.signWeight = f.infRung) (hb : f.binade ≤ f.infRung) : f.read x = .infinity (x / f.signWeight % 2 == 1) := by
  unfold Ieee.Format.read
  dsimp only
  rw [if_neg (by omega), if_neg (by omega), if_pos h]

theorem compare_congr {x y x' y' : Int} (h1 : x < y ↔ x' < y') (h2 : x = y ↔ x' = y') : compare x y = compare x' y' := by
  simp only [compare, compareOfLessAndEq]
  by_cases a : x < y
  · rw [if_pos a, if_pos (h1.1 a)]
  · rw [if_neg a, if_neg (fun b => a (h1.2 b))]
    by_cases c : x = y
    · rw [if_pos c, if_pos (h2.1 c)]
    · rw [if_neg c, if_neg (fun b => c (h2.2 b))]

theorem order_key (f : Ieee.Format) (hb : f.binade ≤ f.infRung) (hi : 0 < f.infRung) (x y : Nat) (hx : notNan f x) (hy : notNan f y) : f.order x y = some (compare (key f x) (key f y)) := by
  unfold notNan at hx hy
  unfold Ieee.Format.order key
  generalize hs : (x / f.signWeight % 2 == 1) = s
  generalize ht : (y / f.signWeight % 2 == 1) = t
  by_cases h1 : x % f.signWeight < f.infRung
  · rw [read_fin f x h1, hs]
    generalize x % f.signWeight = a at *
    by_cases h2 : y % f.signWeight < f.infRung
    · rw [read_fin f y h2, ht]
      generalize y % f.signWeight = b at *
      simp only [Ieee.Datum.order]
      congr 1
      have e1 : (f.leastPlace + (ex f a : Int) - min (f.leastPlace + (ex f a : Int)) (f.leastPlace + (ex f b : Int))).toNat = ex f a - min (ex f a) (ex f b) := by omega
      have e2 : (f.leastPlace + (ex f b : Int) - min (f.leastPlace + (ex f a : Int)) (f.leastPlace + (ex f b : Int))).toNat = ex f b - min (ex f a) (ex f b) := by omega
      rw [e1, e2]
      have sa := scaled f a (min (ex f a) (ex f b)) (Nat.min_le_left _ _)
      have sb := scaled f b (min (ex f a) (ex f b)) (Nat.min_le_right _ _)
      have hp : 0 < 2 ^ min (ex f a) (ex f b) := Nat.two_pow_pos _
      have v1 := vl_lt_iff f a b
      have v2 := vl_lt_iff f b a
      have z1 := vl_lt_iff f 0 a
      have z2 := vl_lt_iff f 0 b
      have v0 : vl f 0 = 0 := by unfold vl mg; rw [if_pos (binade_pos f)]; simp
      rw [v0] at z1 z2
      rw [← sa, ← sb] at v1 v2
      rw [← sa] at z1
      rw [← sb] at z2
      simp only [Ieee.signed]
      generalize mg f a <<< (ex f a - min (ex f a) (ex f b)) = A at *
      generalize mg f b <<< (ex f b - min (ex f a) (ex f b)) = C at *
      generalize 2 ^ min (ex f a) (ex f b) = D at *
      have w1 : A < C ↔ a < b := by rw [← v1]; exact ⟨fun h => Nat.mul_lt_mul_of_pos_right h hp, fun h => Nat.lt_of_mul_lt_mul_right h⟩
      have w2 : C < A ↔ b < a := by rw [← v2]; exact ⟨fun h => Nat.mul_lt_mul_of_pos_right h hp, fun h => Nat.lt_of_mul_lt_mul_right h⟩
      have w3 : 0 < A ↔ 0 < a := by rw [← z1]; exact ⟨fun h => Nat.mul_pos h hp, fun h => Nat.pos_of_mul_pos_right h⟩
      have w4 : 0 < C ↔ 0 < b := by rw [← z2]; exact ⟨fun h => Nat.mul_pos h hp, fun h => Nat.pos_of_mul_pos_right h⟩
      clear v1 v2 z1 z2 sa sb e1 e2 hs ht h1 h2 hx hy
      apply compare_congr <;> cases s <;> cases t <;> simp only [if_true, if_false, Bool.false_eq_true] <;> omega
    · have h3 : y % f.signWeight = f.infRung := by omega
      rw [read_inf f y h3 hb, ht, h3]
      simp only [Ieee.Datum.order]
      congr 1
      cases t
      · simp only [Bool.false_eq_true, if_false, compare, compareOfLessAndEq]
        rw [if_pos (by split <;> omega)]
      · simp only [if_true, compare, compareOfLessAndEq]
        rw [if_neg (by split <;> omega), if_neg (by split <;> omega)]
  · have h3 : x % f.signWeight = f.infRung := by omega
    rw [read_inf f x h3 hb, hs, h3]
    by_cases h2 : y % f.signWeight < f.infRung
    · rw [read_fin f y h2, ht]
      simp only [Ieee.Datum.order]
      congr 1
      cases s
      · simp only [Bool.false_eq_true, if_false, compare, compareOfLessAndEq]
        rw [if_neg (by split <;> omega), if_neg (by split <;> omega)]
      · simp only [if_true, compare, compareOfLessAndEq]
        rw [if_pos (by split <;> omega)]
    · have h4 : y % f.signWeight = f.infRung := by omega
      rw [read_inf f y h4 hb, ht, h4]
      simp only [Ieee.Datum.order]
      congr 1
      have hI : (0 : Int) < (f.infRung : Int) := by omega
      generalize (f.infRung : Int) = I at *
      cases s <;> cases t
      · show Ordering.eq = compare I I
        simp only [compare, compareOfLessAndEq]
        rw [if_neg (by omega), if_pos trivial]
      · show Ordering.gt = compare I (-I)
        simp only [compare, compareOfLessAndEq]
        rw [if_neg (by omega), if_neg (by omega)]
      · show Ordering.lt = compare (-I) I
        simp only [compare, compareOfLessAndEq]
        rw [if_pos (by omega)]
      · show Ordering.eq = compare (-I) (-I)
        simp only [compare, compareOfLessAndEq]
        rw [if_neg (by omega), if_pos trivial]

theorem nn_iff (k : FloatKind) (x : Nat) : nn k x = false ↔ notNan k.format x := by
  unfold nn notNan FloatKind.decode
  have hb : k.format.binade ≤ k.format.infRung := by cases k <;> decide
  constructor
  · intro h
    by_cases h1 : x % k.format.signWeight ≤ k.format.infRung
    · exact h1
    · exfalso
      unfold Ieee.Format.read at h
      dsimp only at h
      rw [if_neg (by omega), if_neg (by omega), if_neg (by omega)] at h
      simp [Ieee.Datum.isNaN] at h
  · intro h
    by_cases h1 : x % k.format.signWeight < k.format.infRung
    · rw [read_fin _ x h1]; rfl
    · rw [read_inf _ x (by omega) hb]; rfl

/-- the order of two numbers of one kind -/
theorem ord_key (k : FloatKind) (x y : Nat) : k.format.order x y = if nn k x || nn k y then none else some (compare (key k.format x) (key k.format y)) := by
  have hb : k.format.binade ≤ k.format.infRung := by cases k <;> decide
  have hi : 0 < k.format.infRung := by cases k <;> decide
  cases hx : nn k x
  · cases hy : nn k y
    · exact order_key _ hb hi x y ((nn_iff k x).1 hx) ((nn_iff k y).1 hy)
    · have := order_cn k x y
      rw [← this, cn_of_nan hy]
      cases hh : k.format.order (cn k x) (qn k) with
      | none => rfl
      | some o =>
        exfalso
        have e : k.format.order (cn k x) (qn k) = none := by
          obtain ⟨s, t, e⟩ := decode_nan (nn_qn k)
          cases ha : k.format.read (cn k x) <;> simp [Ieee.Format.order, e, ha, Ieee.Datum.order]
        rw [e] at hh; cases hh
  · have := order_cn k x y
    rw [← this, cn_of_nan hx]
    obtain ⟨s, t, e⟩ := decode_nan (nn_qn k)
    cases ha : k.format.read (cn k y) <;> simp [Ieee.Format.order, e, ha, Ieee.Datum.order]

end Go.Proofs.YtncjkhdnpioinaaDoor

/- Finite numbers, subnormal numbers, absolute values, and the masks by which bits are told. -/
namespace Go.Proofs.YtncjkhdnpioinaaDoor

/-- a number that is finite -/
def fin (k : FloatKind) (b : Nat) : Bool := !nn k b && !(k.decode b).isInfinity

theorem fin_nan {k : FloatKind} {b : Nat} (h : nn k b = true) : fin k b = false := by simp [fin, h]
theorem fin_cn (k : FloatKind) (b : Nat) : fin k (cn k b) = fin k b := by
  cases h : nn k b
  · rw [cn_of_num h]
  · rw [cn_of_nan h, fin_nan h, fin_nan (nn_qn k)]

theorem fin_number {k : FloatKind} {b : Nat} (h : fin k b = true) : ∃ s m e, k.format.read b = .number s m e := by
  unfold fin nn FloatKind.decode at h
  cases e : k.format.read b with
  | number s m i => exact ⟨s, m, i, rfl⟩
  | infinity s => rw [e] at h; simp [Ieee.Datum.isInfinity] at h
  | nan s t => rw [e] at h; simp [Ieee.Datum.isNaN] at h

theorem inf_of {k : FloatKind} {b : Nat} (h : fin k b = false) (hn : nn k b = false) : ∃ s, k.format.read b = .infinity s := by
  unfold fin at h
  rw [hn] at h
  unfold nn FloatKind.decode at hn
  unfold FloatKind.decode at h
  cases e : k.format.read b with
  | number s m i => rw [e] at h; simp [Ieee.Datum.isInfinity] at h
  | infinity s => exact ⟨s, rfl⟩
  | nan s t => rw [e] at hn; simp [Ieee.Datum.isNaN] at hn

theorem sub_self_fin {k : FloatKind} {b : Nat} (h : fin k b = true) : floatBits .sub k b b = some 0 := by
  obtain ⟨s, m, e, hr⟩ := fin_number h
  unfold floatBits Ieee.Format.sub
  simp only [hr, Ieee.Datum.opposite, Ieee.Datum.sum]
  have hz : Ieee.signed s m (e - min e e).toNat + Ieee.signed (!s) m (e - min e e).toNat = 0 := by
    unfold Ieee.signed; cases s <;> simp <;> omega
  rw [hz]
  cases s <;> cases k <;> rfl

theorem sub_self_inf {k : FloatKind} {b : Nat} (h : fin k b = false) : floatBits .sub k b b = none := by
  cases hn : nn k b
  · obtain ⟨s, hr⟩ := inf_of h hn
    unfold floatBits Ieee.Format.sub
    simp only [hr, Ieee.Datum.opposite, Ieee.Datum.sum]
    cases s <;> rfl
  · exact floatBits_nan_left hn

theorem zero_self (k : FloatKind) : k.format.order 0 0 = some .eq := by cases k <;> rfl
theorem qn_order (k : FloatKind) (z : Nat) : k.format.order (qn k) z = none := by
  obtain ⟨s, t, e⟩ := decode_nan (nn_qn k)
  cases ha : k.format.read z <;> simp [Ieee.Format.order, e, ha, Ieee.Datum.order]

/-- what is taken from itself is zero for finite numbers alone -/
theorem sub_zero {k : FloatKind} {a r : Nat} (h : FR .sub k a a r) : (k.format.order r 0 == some .eq) = fin k a := by
  rw [← order_cn k r 0, h.1, fop, floatBits_cn]
  have h0 : cn k 0 = 0 := by cases k <;> rfl
  cases hf : fin k a
  · rw [sub_self_inf hf]
    show (k.format.order (qn k) (cn k 0) == some .eq) = false
    rw [qn_order]; rfl
  · rw [sub_self_fin hf]
    show (k.format.order 0 (cn k 0) == some .eq) = true
    rw [h0, zero_self]; rfl

theorem fin_write_inf {d : FloatKind} (s : Bool) : fin d (d.encode (.infinity s)) = false := by cases d <;> cases s <;> rfl

/-- a 32-bit number made a 64-bit one is finite as it was -/
theorem fin_up {a r : Nat} (h : UR a r) : fin .f64 r = fin .f32 a := by
  rw [← fin_cn .f64 r, h.1, ← fin_cn .f32 a]
  generalize hc : cn .f32 a = c
  cases hn : nn .f32 c
  · obtain ⟨u, hu⟩ := up_some hn
    rw [cvu, hu]
    show fin .f64 u = _
    unfold floatToFloatBits at hu
    rw [if_neg (by decide)] at hu
    split at hu
    · cases hu
    · rename_i s he
      cases hu
      rw [fin_write_inf]
      symm
      unfold fin
      rw [he]; simp [Ieee.Datum.isInfinity]
    · rename_i s m e he
      split at hu
      · cases hu
      · rename_i hi
        cases hu
        have e1 : nn .f64 (FloatKind.f64.encode (.number s m e)) = false := read_write Ieee.double (.number s m e) rfl
        have e2 : nn .f32 c = false := hn
        unfold fin
        rw [e1, e2, he]
        simp only [Bool.not_false, Bool.true_and]
        rw [show (FloatKind.f64.decode (FloatKind.f64.encode (.number s m e))).isInfinity = false from by simpa using hi]
        rfl
  · rw [cvu, ftf_nan (by decide) hn, fin_nan hn]
    rfl

theorem nn_up {a r : Nat} (h : UR a r) : nn .f64 r = nn .f32 a := by
  rw [← nn_cn .f64 r, h.1, ← nn_cn .f32 a]
  generalize cn .f32 a = c
  cases hn : nn .f32 c
  · obtain ⟨u, hu⟩ := up_some hn
    rw [cvu, hu]
    exact ftf_num (by decide) hu
  · rw [cvu, ftf_nan (by decide) hn]; rfl

theorem wf32 {a : Nat} (h : (Lit.float .f32 a).wf = true) : a < 4294967296 := by simpa [Lit.wf] using h
theorem wf64 {a : Nat} (h : (Lit.float .f64 a).wf = true) : a < 18446744073709551616 := by simpa [Lit.wf] using h

theorem single_sw : FloatKind.f32.format.signWeight = 2147483648 := by decide
theorem double_sw : FloatKind.f64.format.signWeight = 9223372036854775808 := by decide
theorem single_inf : FloatKind.f32.format.infRung = 2139095040 := by decide

/-- which bits are a not-a-number -/
theorem nn32 (a : Nat) : nn .f32 a = decide (2139095040 < a % 2147483648) := by
  have := nn_iff .f32 a
  unfold notNan at this
  rw [single_sw, single_inf] at this
  cases h : nn .f32 a
  · have := this.1 h; symm; simp; omega
  · symm; simp
    by_cases hx : a % 2147483648 ≤ 2139095040
    · rw [this.2 hx] at h; cases h
    · omega
theorem nn64 (a : Nat) : nn .f64 a = decide (9218868437227405312 < a % 9223372036854775808) := by
  have := nn_iff .f64 a
  unfold notNan at this
  rw [double_sw, show FloatKind.f64.format.infRung = 9218868437227405312 from by decide] at this
  cases h : nn .f64 a
  · have := this.1 h; symm; simp; omega
  · symm; simp
    by_cases hx : a % 9223372036854775808 ≤ 9218868437227405312
    · rw [this.2 hx] at h; cases h
    · omega

theorem fin64 (a : Nat) : fin .f64 a = decide (a % 9223372036854775808 < 9218868437227405312) := by
  have h2 := read_fin FloatKind.f64.format a
  have h3 := read_inf FloatKind.f64.format a
  rw [double_sw, show FloatKind.f64.format.infRung = 9218868437227405312 from by decide] at h2 h3
  unfold fin
  rw [nn64]
  by_cases h : a % 9223372036854775808 < 9218868437227405312
  · unfold FloatKind.decode
    rw [h2 h]
    simp [Ieee.Datum.isInfinity, h]; omega
  · by_cases h' : a % 9223372036854775808 = 9218868437227405312
    · unfold FloatKind.decode
      rw [h3 h' (by decide)]
      simp [Ieee.Datum.isInfinity, h]
    · simp [h]; omega

theorem i64_and_nat (a b : Nat) (ha : a < 9223372036854775808) (hb : b < 9223372036854775808) : bits .and .i64 (a : Int) (b : Int) = ((a &&& b : Nat) : Int) := by
  have hle : a &&& b ≤ a := Nat.and_le_left
  show IntKind.i64.wrap ((BitVec.ofInt 64 (a : Int) &&& BitVec.ofInt 64 (b : Int)).toNat : Int) = _
  rw [BitVec.toNat_and, ofInt_u64 a (by omega), ofInt_u64 b (by omega)]
  exact IntWalk.i64_in _ (by omega)

/-- the exponent's bits alone -/
theorem exp_mask (a : Nat) (h : a < 4294967296) : bits .and .i64 (a : Int) 2139095040 = ((a % 2147483648 / 8388608 * 8388608 : Nat) : Int) := by
  rw [show (2139095040 : Int) = ((2139095040 : Nat) : Int) from rfl, i64_and_nat a _ (by omega) (by decide)]
  congr 1
  have e : a &&& 2139095040 = a % 2147483648 / 8388608 * 8388608 := by
    apply Nat.eq_of_testBit_eq
    intro i
    rw [Nat.testBit_and, show (8388608 : Nat) = 2 ^ 23 from rfl, Nat.testBit_mul_two_pow, Nat.testBit_div_two_pow, show (2147483648 : Nat) = 2 ^ 31 from rfl, Nat.testBit_mod_two_pow,
      show (2139095040 : Nat) = (2 ^ 8 - 1) * 2 ^ 23 from rfl, Nat.testBit_mul_two_pow, Nat.testBit_two_pow_sub_one]
    by_cases h1 : 23 ≤ i
    · simp [h1]
      by_cases h2 : i < 31
      · simp [h2, show i - 23 < 8 by omega]
      · simp [h2, show ¬ i - 23 < 8 by omega]
    · simp [h1]
  exact e

theorem sign_mask (a : Nat) (h : a < 4294967296) : bits .and .i64 (a : Int) 2147483648 = ((a / 2147483648 * 2147483648 : Nat) : Int) := by
  rw [show (2147483648 : Int) = ((2147483648 : Nat) : Int) from rfl, i64_and_nat a _ (by omega) (by decide)]
  congr 1
  have e : a &&& 2147483648 = a / 2147483648 * 2147483648 := by
    apply Nat.eq_of_testBit_eq
    intro i
    rw [Nat.testBit_and, show (2147483648 : Nat) = 2 ^ 31 from rfl, Nat.testBit_mul_two_pow, Nat.testBit_div_two_pow, Nat.testBit_two_pow]
    by_cases h1 : 31 = i
    · subst h1; simp
    · by_cases h2 : 31 ≤ i
      · simp [h1, h2, show i - 31 + 31 = i by omega]
        exact Nat.testBit_lt_two_pow (Nat.lt_of_lt_of_le (show a < 2 ^ 32 from h) (Nat.pow_le_pow_right (by decide) (by omega)))
      · simp [h1, h2]
  exact e

theorem abs_bits (r : Nat) (h : r < 18446744073709551616) : (bits .andNot .u64 (r : Int) 9223372036854775808).toNat = r % 9223372036854775808 := by
  have := u64_andNot_nat r 9223372036854775808 h (by decide)
  rw [show (9223372036854775808 : Int) = ((9223372036854775808 : Nat) : Int) from rfl, this, Int.toNat_natCast]
  exact Nat.and_two_pow_sub_one_eq_mod r 63

theorem sign_and (r : Nat) (h : r < 18446744073709551616) : r &&& 9223372036854775808 = r / 9223372036854775808 * 9223372036854775808 := by
  apply Nat.eq_of_testBit_eq
  intro i
  rw [Nat.testBit_and, show (9223372036854775808 : Nat) = 2 ^ 63 from rfl, Nat.testBit_mul_two_pow, Nat.testBit_div_two_pow, Nat.testBit_two_pow]
  by_cases h1 : 63 = i
  · subst h1; simp
  · by_cases h2 : 63 ≤ i
    · simp [h1, h2, show i - 63 + 63 = i by omega]
      exact Nat.testBit_lt_two_pow (Nat.lt_of_lt_of_le (show r < 2 ^ 64 from h) (Nat.pow_le_pow_right (by decide) (by omega)))
    · simp [h1, h2]

theorem copysign_bits (r : Nat) (h : r < 18446744073709551616) : (bits BinOp.or IntKind.u64 (bits BinOp.andNot IntKind.u64 0 9223372036854775808) (bits BinOp.and IntKind.u64 (r : Int) 9223372036854775808)).toNat = r / 9223372036854775808 * 9223372036854775808 := by
  have h1 := u64_andNot_nat 0 9223372036854775808 (by decide) (by decide)
  have h2 := u64_and_nat r 9223372036854775808 h (by decide)
  rw [show (9223372036854775808 : Int) = ((9223372036854775808 : Nat) : Int) from rfl, show (0 : Int) = ((0 : Nat) : Int) from rfl, h1, h2, Nat.zero_and, sign_and r h]
  rw [u64_or_nat 0 _ (by decide) (by omega), Nat.zero_or, Int.toNat_natCast]

theorem cmp_gt (x y : Int) : (some (compare x y) == some Ordering.gt) = decide (y < x) := by
  simp only [compare, compareOfLessAndEq]
  by_cases h : x < y
  · rw [if_pos h, decide_eq_false (by omega)]; rfl
  · rw [if_neg h]
    by_cases h' : x = y
    · rw [if_pos h', decide_eq_false (by omega)]; rfl
    · rw [if_neg h', decide_eq_true (by omega)]; rfl
theorem cmp_lt (x y : Int) : (some (compare x y) == some Ordering.lt) = decide (x < y) := by
  simp only [compare, compareOfLessAndEq]
  by_cases h : x < y
  · rw [if_pos h, decide_eq_true h]; rfl
  · rw [if_neg h, decide_eq_false h]
    by_cases h' : x = y
    · rw [if_pos h']; rfl
    · rw [if_neg h']; rfl
theorem cmp_eq (x y : Int) : (some (compare x y) == some Ordering.eq) = decide (x = y) := by
  simp only [compare, compareOfLessAndEq]
  by_cases h : x < y
  · rw [if_pos h, decide_eq_false (by omega)]; rfl
  · rw [if_neg h]
    by_cases h' : x = y
    · rw [if_pos h', decide_eq_true h']; rfl
    · rw [if_neg h', decide_eq_false h']; rfl

theorem key64_pos (x : Nat) (h : x < 9223372036854775808) : key FloatKind.f64.format x = x := by
  unfold key
  rw [double_sw, Nat.div_eq_of_lt h, Nat.mod_eq_of_lt h]
  rfl

/-- greater than the greatest finite number: the infinity alone -/
theorem abs_gt (r : Nat) (h : nn .f64 r = false) : (FloatKind.f64.format.order (r % 9223372036854775808) 9218868437227405311 == some .gt) = !fin .f64 r := by
  rw [nn64] at h
  have h' := of_decide_eq_false h
  rw [ord_key, nn64, nn64, fin64, Nat.mod_mod, decide_eq_false h', decide_eq_false (by decide)]
  simp only [Bool.or_false, Bool.false_eq_true, if_false]
  rw [cmp_gt, key64_pos _ (Nat.mod_lt _ (by decide)), key64_pos _ (by decide)]
  rw [← decide_not]
  exact decide_eq_decide.2 (by omega)
end Go.Proofs.YtncjkhdnpioinaaDoor

/- The entries of package math that have no body: what each hands back. -/
namespace Go.Proofs.YtncjkhdnpioinaaDoor
open Go.RowKit

@[go_sem] theorem ext_f32bits (b : Nat) (w : World) : (callFunc 191 #[.float .f32 b]).run Tryd.prog w = .ok (.value (.int .u32 b)) w := by rw [run_callFunc_extern (e := Extern.MathFloatBits.float32bits) Tryd.func191 (by kernel_rfl) (by kernel_rfl) (by kernel_rfl) (by kernel_rfl)]; rfl
@[go_sem] theorem ext_f64bits (b : Nat) (w : World) : (callFunc 224 #[.float .f64 b]).run Tryd.prog w = .ok (.value (.int .u64 b)) w := by rw [run_callFunc_extern (e := Extern.MathFloatBits.float64bits) Tryd.func224 (by kernel_rfl) (by kernel_rfl) (by kernel_rfl) (by kernel_rfl)]; rfl
@[go_sem] theorem ext_f32from (n : Int) (w : World) : (callFunc 190 #[.int .u32 n]).run Tryd.prog w = .ok (.value (.float .f32 n.toNat)) w := by rw [run_callFunc_extern (e := Extern.MathFloatBits.float32frombits) Tryd.func190 (by kernel_rfl) (by kernel_rfl) (by kernel_rfl) (by kernel_rfl)]; rfl
@[go_sem] theorem ext_f64from (n : Int) (w : World) : (callFunc 223 #[.int .u64 n]).run Tryd.prog w = .ok (.value (.float .f64 n.toNat)) w := by rw [run_callFunc_extern (e := Extern.MathFloatBits.float64frombits) Tryd.func223 (by kernel_rfl) (by kernel_rfl) (by kernel_rfl) (by kernel_rfl)]; rfl
end Go.Proofs.YtncjkhdnpioinaaDoor

/- The laws' own comparison of two 64-bit numbers: it answers true where both are the same up to the bits of a not-a-number. -/
namespace Go.Proofs.YtncjkhdnpioinaaDoor
open Go.RowKit

/-- true, and the world is as it was but for questions -/
def Yes (w : World) (e : Ending) (w' : World) : Prop := e = .returned (.bool true) ∧ ∃ n, w' = w.drewN n
theorem Yes.same {w : World} : Yes w (.returned (.bool true)) w := ⟨rfl, 0, rfl⟩
theorem Yes.drewN {w : World} {n : Nat} : Yes w (.returned (.bool true)) (w.drewN n) := ⟨rfl, n, rfl⟩

theorem FR_order {op op' : BinOp} {k : FloatKind} {m n m' n' r s : Nat} (h : FR op k m n r) (h' : FR op' k m' n' s) (he : fop op k (cn k m) (cn k n) = fop op' k (cn k m') (cn k n')) (z : Nat) :
    k.format.order r z = k.format.order s z := by
  rw [← order_cn k r z, ← order_cn k s z, h.1, h'.1, he]

theorem sameFloat_nan (g x : Nat) (w : World) (hg : FloatKind.f64.format.order g g = none) (hx : FloatKind.f64.format.order x x = none) :
    Calls Tryd.prog 77 #[.float .f64 g, .float .f64 x] w (Yes w) := by
  go_enter Tryd.func77, Tryd.ntmps77
  go_wp2
  go_ret
  exact Yes.same

theorem sameFloat_eq (g : Nat) (w : World) (hg : FloatKind.f64.format.order g g = some .eq) :
    Calls Tryd.prog 77 #[.float .f64 g, .float .f64 g] w (Yes w) := by
  go_enter Tryd.func77, Tryd.ntmps77
  cases h0 : FloatKind.f64.format.order g 0 == some .eq
  · go_wp2
    go_ret
    exact Yes.same
  · go_wp2_with (refine wpList_farith rfl _ _ _ _ _ rfl rfl _ _ _ rfl rfl ?_; intro _ _ _)
    go_ret
    rename_i r1 j1 h1 r2 j2 h2
    refine ⟨?_, _, rfl⟩
    show Ending.returned (.bool ((FloatKind.f64.format.order r1 0 == some Ordering.gt) == (FloatKind.f64.format.order r2 0 == some Ordering.gt))) = _
    rw [FR_order h1 h2 rfl 0]
    simp

/-- numbers that are the same -/
theorem sameFloat_any (g x : Nat) (w : World) (h : cn .f64 g = cn .f64 x) :
    Calls Tryd.prog 77 #[.float .f64 g, .float .f64 x] w (Yes w) := by
  cases hg : nn .f64 g
  · have hx : nn .f64 x = false := by rw [← nn_cn, ← h, nn_cn]; exact hg
    rw [cn_of_num hg, cn_of_num hx] at h
    subst h
    exact sameFloat_eq g w (by rw [order_self, hg]; rfl)
  · have hx : nn .f64 x = true := by rw [← nn_cn, ← h, nn_cn]; exact hg
    exact sameFloat_nan g x w (by rw [order_self, hg]; rfl) (by rw [order_self, hx]; rfl)

theorem UR_same {m m' r r' : Nat} (h : UR m r) (h' : UR m' r') (e : cn .f32 m = cn .f32 m') : cn .f64 r = cn .f64 r' := by rw [h.1, h'.1, e]
/-- a bool, and the world is as it was but for questions -/
def Bol (b : Bool) (w : World) (e : Ending) (w' : World) : Prop := e = .returned (.bool b) ∧ ∃ n, w' = w.drewN n

/-- a 32-bit number, and the world is as it was but for questions -/
def Flo (P : Nat → Prop) (w : World) (e : Ending) (w' : World) : Prop := ∃ r n, P r ∧ (Lit.float .f32 r).wf = true ∧ e = .returned (.float .f32 r) ∧ w' = w.drewN n
def Flo2 (r : Nat) (b : Bool) (w : World) (e : Ending) (w' : World) : Prop := e = .returned (.tuple #[.float .f32 r, .bool b]) ∧ w = w'

/-- the end of an exact law on one 32-bit number -/
theorem same_end {a b r s : Nat} (w : World) (h : UR a r) (h' : UR b s) (e : cn .f32 a = cn .f32 b) : Calls Tryd.prog 77 #[.float .f64 r, .float .f64 s] w (Yes w) :=
  sameFloat_any r s w (UR_same h h' e)
end Go.Proofs.YtncjkhdnpioinaaDoor

/- Blocks of a call's own: what lies in them, and what is kept behind a call. -/
namespace Go.Proofs.YtncjkhdnpioinaaDoor
open Go.RowKit

theorem below_al1 (w : World) (a : Obj) : Below w.heap.size w (w.alloc a) := (Below.refl _ _).alloc (Nat.le_refl _) a
theorem below_al2 (w : World) (a b : Obj) : Below w.heap.size w ((w.alloc a).alloc b) := (below_al1 w a).alloc (by simp) b
theorem below_al3 (w : World) (a b c : Obj) : Below w.heap.size w (((w.alloc a).alloc b).alloc c) := (below_al2 w a b).alloc (by simp; omega) c
theorem below_al4 (w : World) (a b c d : Obj) : Below w.heap.size w ((((w.alloc a).alloc b).alloc c).alloc d) := (below_al3 w a b c).alloc (by simp; omega) d

theorem below_unal {a w : World} {o : Obj} (h : Below (a.alloc o).heap.size (a.alloc o) w) : Below a.heap.size a w := below_step (below_al1 a o) h

/-- a block holds these cells, and may be written -/
def Cells (w : World) (p : Nat) (vs : List Value) : Prop := (∀ i v, vs[i]? = some v → w.cell? ⟨p, i, none⟩ = some v) ∧ (∀ i, w.frozen? ⟨p, i, none⟩ = false) ∧ p < w.heap.size
theorem Cells.at {w : World} {p : Nat} {vs : List Value} (h : Cells w p vs) (i : Nat) {v : Value} (hv : vs[i]? = some v) : w.cell? ⟨p, i, none⟩ = some v := h.1 i v hv
theorem Cells.fz {w : World} {p : Nat} {vs : List Value} (h : Cells w p vs) (i : Nat) : w.frozen? ⟨p, i, none⟩ = false := h.2.1 i
theorem Cells.lt {w : World} {p : Nat} {vs : List Value} (h : Cells w p vs) : p < w.heap.size := h.2.2
theorem Cells.kept {w w' : World} {p : Nat} {vs : List Value} (h : Cells w p vs) (hb : Below w.heap.size w w') : Cells w' p vs :=
  ⟨fun i v hv => (hb.cell (p := ⟨p, i, none⟩) h.lt).trans (h.1 i v hv), fun i => (hb.frozen (p := ⟨p, i, none⟩) h.lt).trans (h.2.1 i), Nat.lt_of_lt_of_le h.lt hb.size⟩
theorem Cells.made (w : World) (vs : List Value) (t : TypeId) : Cells (w.alloc (.cells vs.toArray t)) w.heap.size vs :=
  ⟨fun i v hv => by simpa using hv, fun i => by simp, by simp⟩
theorem Cells.drewN {w : World} {p n : Nat} {vs : List Value} (h : Cells w p vs) : Cells (w.drewN n) p vs := h
theorem Cells.al {w : World} {p : Nat} {vs : List Value} (h : Cells w p vs) (o : Obj) : Cells (w.alloc o) p vs := h.kept (below_al1 w o)

theorem Cells.set {w : World} {p : Nat} {vs : List Value} (h : Cells w p vs) (i : Nat) (hi : i < vs.length) (v : Value) : Cells (w.setCell ⟨p, i, none⟩ v) p (vs.set i v) := by
  refine ⟨fun j u hj => ?_, fun j => by rw [World.frozen?_setCell]; exact h.2.1 j, by simpa using h.2.2⟩
  have hi' : vs[i]? = some vs[i] := List.getElem?_eq_getElem hi
  by_cases e : i = j
  · subst e
    rw [World.cell?_setCell_same _ _ _ (h.1 i _ hi')]
    simp [hi] at hj
    simp [hj]
  · rw [World.cell?_setCell_other _ _ _ _ (by intro e'; cases e'; exact e rfl)]
    rw [List.getElem?_set_ne e] at hj
    exact h.1 j u hj
theorem Cells.far {w : World} {p q : Nat} {vs : List Value} (h : Cells w p vs) (hq : q ≠ p) (i : Nat) (v : Value) : Cells (w.setCell ⟨q, i, none⟩ v) p vs :=
  ⟨fun j u hj => by rw [World.cell?_setCell_other _ _ _ _ (by intro e; cases e; exact hq rfl)]; exact h.1 j u hj, fun j => by rw [World.frozen?_setCell]; exact h.2.1 j, by simpa using h.2.2⟩

end Go.Proofs.YtncjkhdnpioinaaDoor

/- A slice of 32-bit numbers, as a list of their bits: what it is, and such an argument opened. -/
namespace Go.Proofs.YtncjkhdnpioinaaDoor
open Go.RowKit

/-- the value v reads as the list zs of numbers: empty, or a row of cells -/
def FRow (w : World) (v : Value) (zs : List Nat) : Prop :=
  ((∃ a c, v = .slice a 0 c) ∧ zs = []) ∨
  ∃ b off cap, v = .slice (some ⟨b, off, none⟩) zs.length cap ∧ zs.length ≤ maxLen ∧ ∀ i, i < zs.length → w.cell? ⟨b, off + i, none⟩ = some (.float .f32 (zs.getD i 0))

theorem cell_lt {w : World} {b o : Nat} {v : Value} (h : w.cell? ⟨b, o, none⟩ = some v) : b < w.heap.size := by
  unfold World.cell? at h
  by_cases hb : b < w.heap.size
  · exact hb
  · rw [Array.getElem?_eq_none (by simpa using hb)] at h
    simp at h

theorem FRow.below {w w' : World} {v : Value} {zs : List Nat} (h : FRow w v zs) (hb : Below w.heap.size w w') : FRow w' v zs := by
  rcases h with h | ⟨b, off, cap, e, hm, hc⟩
  · exact .inl h
  · refine .inr ⟨b, off, cap, e, hm, fun i hi => ?_⟩
    have := hc i hi
    rw [hb.cell (p := ⟨b, off + i, none⟩) (cell_lt this)]
    exact this

theorem FRow.drewN {w : World} {v : Value} {zs : List Nat} {n : Nat} (h : FRow w v zs) : FRow (w.drewN n) v zs := h


/-- how long a slice is -/
theorem FRow.shape {w : World} {v : Value} {zs : List Nat} (h : FRow w v zs) : ∃ a cap, v = .slice a zs.length cap := by
  rcases h with ⟨h, rfl⟩ | ⟨b, off, cap, rfl, _⟩
  · exact h
  · exact ⟨_, _, rfl⟩

/-- an argument that is a slice of 32-bit numbers -/
theorem open_f32s {H : Type} {enc : TypeId × Value → H} {P : Program} {w : World} {base : Nat} {spare : Nat → Bool} {held : Bool} {t e : TypeId} {a : Option Addr} {len cap : Nat} {d : DataW H} {ps : List MemPlace}
    (ht : P.underlying t = some (.slice e)) (he : P.underlying e = some (.float .f32)) (hc : P.cellsOf e = 1) (h : DataW.Trod enc P w base spare held t (.slice a len cap) d ps) :
    ∃ zs, FRow w (.slice a len cap) zs ∧ ∀ i, i < zs.length → (Lit.float .f32 (zs.getD i 0)).wf = true := by
  obtain ⟨fuel, hf⟩ := h
  rcases Deep.open_slice1 ht hc hf with ⟨hcs, _⟩ | ⟨x, l, c, m, n, V, D, Pl, hcs, _, hl, hm, hmm, _, hV⟩
  · simp [Value.cells] at hcs
    obtain ⟨rfl, rfl, rfl⟩ := hcs
    exact ⟨[], .inl ⟨⟨_, _, rfl⟩, rfl⟩, fun i hi => by simp at hi⟩
  · simp [Value.cells] at hcs
    obtain ⟨rfl, rfl, rfl⟩ := hcs
    have hlm : len ≤ m := by rw [hmm]; split <;> omega
    have hb : ∀ i, i < len → ∃ b, V i = .float .f32 b ∧ (Lit.float .f32 b).wf = true := by
      intro i hi
      have h2 := (hV i (by omega)).2
      cases n with
      | zero => simp [DataW.trod] at h2
      | succ n =>
        cases hv : V i <;> simp [DataW.trod, he, hv] at h2
        rename_i k b
        obtain ⟨⟨rfl, hw⟩, _⟩ := h2
        exact ⟨b, rfl, hw⟩
    obtain ⟨B, hB⟩ := Deep.choose_lt hb
    refine ⟨(List.range len).map B, ?_, fun i hi => ?_⟩
    · by_cases h0 : len = 0
      · subst h0; exact .inl ⟨⟨_, _, rfl⟩, rfl⟩
      · obtain ⟨xb, xo, xs⟩ := x
        have hs : xs = none := by simpa [Addr.add] using World.cell?_spot (hV 0 (by omega)).1
        subst hs
        refine .inr ⟨xb, xo, cap, by simp, by simp; omega, fun i hi => ?_⟩
        have hi' : i < len := by simpa using hi
        have := (hV i (by omega)).1
        rw [(hB i hi').1] at this
        have ea : (⟨xb, xo, none⟩ : Addr).add i = ⟨xb, xo + i, none⟩ := by
          by_cases h : i = 0
          · subst h; simp [Addr.add]
          · simp [Addr.add, h]
        rw [ea] at this
        simpa [hi', List.getD_eq_getElem?_getD] using this
    · have hi' : i < len := by simpa using hi
      simpa [hi', List.getD_eq_getElem?_getD] using (hB i hi').2

/-- a slice that is a whole block of its own -/
abbrev sl (p : Nat) (zs : List Nat) : Value := .slice (some ⟨p, 0, none⟩) zs.length zs.length
def fl (zs : List Nat) : List Value := zs.map (.float .f32)
theorem FRow.of_cells {w : World} {p : Nat} {zs : List Nat} (h : Cells w p (fl zs)) (hm : zs.length ≤ maxLen) : FRow w (sl p zs) zs :=
  .inr ⟨p, 0, _, rfl, hm, fun i hi => by rw [Nat.zero_add]; exact h.1 i _ (by simp [fl, hi, List.getD_eq_getElem?_getD])⟩
theorem ret_b {x b : Bool} (h : x = b) : Ending.returned (.bool b) = Ending.returned (.bool x) := by rw [h]

theorem FRow.cells {w : World} {v : Value} {zs : List Nat} (h : FRow w v zs) (hn : 1 ≤ zs.length) : ∃ b off cap, v = .slice (some ⟨b, off, none⟩) zs.length cap ∧ ∀ i, i < zs.length → w.cell? ⟨b, off + i, none⟩ = some (.float .f32 (zs.getD i 0)) := by
  rcases h with ⟨_, rfl⟩ | ⟨b, off, cap, e, hm, hc⟩
  · simp at hn
  · exact ⟨b, off, cap, e, hc⟩

theorem FRow.len {w : World} {v : Value} {zs : List Nat} (h : FRow w v zs) : zs.length ≤ 9223372036854775807 := by
  rcases h with ⟨_, rfl⟩ | ⟨_, _, _, _, hm, _⟩
  · simp
  · exact hm

end Go.Proofs.YtncjkhdnpioinaaDoor

/- A region that draws its order, whose operations leave the world alone but for questions, AND MAY HAND BACK ANY OF SEVERAL VALUES (a not-a-number's bits): one walk in the order of the text, for every such value, serves every order. After the guide's theorem for one value. -/
namespace Go.Proofs.YtncjkhdnpioinaaDoor

section
variable {P : Program} {ops : Array Oper} {md : Region.Mode} {C : World → Prop} {Sg : FuncId → Array Value → Value → Prop}

def LoGood (P : Program) (C : World → Prop) (Sg : FuncId → Array Value → Value → Prop) : Result Next → Prop
  | .ok (.value _) w' => C w'
  | .ok .skip w' => C w'
  | .ok (.enter f args) w' => C w' ∧ Calls P f args w' (fun e w'' => ∃ v, e = .returned v ∧ Sg f args v ∧ C w'')
  | _ => False

def LoVal (Sg : FuncId → Array Value → Value → Prop) (v : Value) : Result Next → Prop
  | .ok (.value u) _ => v = u
  | .ok .skip _ => v = undef
  | .ok (.enter f args) _ => Sg f args v
  | _ => False

def good (P : Program) (C : World → Prop) (Sg : FuncId → Array Value → Value → Prop) (o : Oper) (a : Act) : Prop := ∀ w, C w → LoGood P C Sg ((execOp a.eval o).run P w)
def val (P : Program) (C : World → Prop) (Sg : FuncId → Array Value → Value → Prop) (o : Oper) (a : Act) (v : Value) : Prop := ∃ w, C w ∧ LoVal Sg v ((execOp a.eval o).run P w)

def loose (P : Program) (C : World → Prop) (Sg : FuncId → Array Value → Value → Prop) (o : Oper) (a : Act) (next : Act → Prop) : Prop := good P C Sg o a ∧ ∀ v, val P C Sg o a v → next (a.put o.dst v)

def wpLoose (P : Program) (ops : Array Oper) (C : World → Prop) (Sg : FuncId → Array Value → Value → Prop) (Q : Act → Prop) : List Oper → Act → Prop
  | [], a => Q a
  | o :: rest, a => if Region.wanted o (yielded ops a.tmps) then loose P C Sg o a (wpLoose P ops C Sg Q rest) else wpLoose P ops C Sg Q rest (a.put o.dst undef)

/-- Is it wanted, and then good; what it may leave. -/
def LGood (P : Program) (ops : Array Oper) (C : World → Prop) (Sg : FuncId → Array Value → Value → Prop) (o : Oper) (a : Act) : Prop := Region.wanted o (yielded ops a.tmps) = true → good P C Sg o a
def LVal (P : Program) (ops : Array Oper) (C : World → Prop) (Sg : FuncId → Array Value → Value → Prop) (o : Oper) (a : Act) (v : Value) : Prop :=
  (Region.wanted o (yielded ops a.tmps) = true ∧ val P C Sg o a v) ∨ (Region.wanted o (yielded ops a.tmps) = false ∧ v = undef)

def lOp (P : Program) (ops : Array Oper) (C : World → Prop) (Sg : FuncId → Array Value → Value → Prop) (i : Nat) (K : Act → Prop) (a : Act) : Prop :=
  match ops[i]? with
  | none => K a
  | some o => LGood P ops C Sg o a ∧ ∀ v, LVal P ops C Sg o a v → K (a.put o.dst v)

def wpAnyL (P : Program) (md : Region.Mode) (ops : Array Oper) (C : World → Prop) (Sg : FuncId → Array Value → Value → Prop) (Q : Act → Prop) : Nat → Array Bool → Act → Prop
  | 0, listed, a => Region.ready md ops listed = [] ∧ Q a
  | fuel + 1, listed, a =>
    (Region.ready md ops listed = [] → Q a) ∧
    ∀ i ∈ Region.ready md ops listed, lOp P ops C Sg i (wpAnyL P md ops C Sg Q fuel (listed.setIfInBounds i true)) a

theorem wp_of_loose {o : Oper} {a : Act} {K : Act → Prop} {K' : Act → World → Prop} {Q' : Exit → Act → World → Prop} {w : World} (hw : C w) (h : ∀ a w', C w' → K a → K' a w')
    (hg : good P C Sg o a) (hv : ∀ v, val P C Sg o a v → K (a.put o.dst v)) : o.wp P a w K' Q' := by
  have h3 := hg w hw
  have h4 : ∀ v, LoVal Sg v ((execOp a.eval o).run P w) → K (a.put o.dst v) := fun v hv' => hv v ⟨w, hw, hv'⟩
  unfold Oper.wp
  generalize (execOp a.eval o).run P w = r at *
  cases r with
  | ok n w' =>
    cases n <;> simp only [LoGood] at h3 <;> simp only [Oper.upon]
    case value u => exact h _ _ h3 (h4 u rfl)
    case skip => exact h _ _ h3 (h4 undef rfl)
    case enter f args =>
      exact h3.2.mono fun e w'' ⟨v, he, hs, hc⟩ => by subst he; exact h _ _ hc (h4 v hs)
  | halt x w' => simp only [LoGood] at h3

theorem wpOp_of_lOp {i : Nat} {a : Act} {K : Act → Prop} {K' : Act → World → Prop} {Q' : Exit → Act → World → Prop} {w : World} (hC : C w) (h : ∀ a w', C w' → K a → K' a w') (hh : lOp P ops C Sg i K a) : wpOp P ops Q' i K' a w := by
  unfold lOp at hh
  unfold wpOp
  split
  · rename_i ho; simp only [ho] at hh; exact h _ _ hC hh
  · rename_i o ho
    simp only [ho] at hh
    split
    · rename_i hw; exact .inl (wp_of_loose hC h (hh.1 hw) fun v hv => hh.2 v (.inl ⟨hw, hv⟩))
    · rename_i hw; exact h _ _ hC (hh.2 undef (.inr ⟨by simpa using hw, rfl⟩))

theorem wpAny_of_loose {Q : Act → Prop} {Q' : Exit → Act → World → Prop} (hQ : ∀ a w, C w → Q a → Q' .normal a w) : ∀ (fuel : Nat) (listed : Array Bool) (a : Act) (w : World), C w →
    wpAnyL P md ops C Sg Q fuel listed a → wpAny P md ops Q' fuel listed a w
  | 0, _, _, _, hw, h => ⟨h.1, hQ _ _ hw h.2⟩
  | fuel + 1, _, _, _, hw, h => ⟨fun h0 => hQ _ _ hw (h.1 h0), fun i hi => wpOp_of_lOp hw (fun a' w' hw' => wpAny_of_loose hQ fuel _ a' w' hw') (h.2 i hi)⟩

/-- there is a value that it may leave -/
theorem some_val {o : Oper} {a : Act} {w : World} (hw : C w) (hg : LGood P ops C Sg o a) : ∃ v, LVal P ops C Sg o a v := by
  by_cases h : Region.wanted o (yielded ops a.tmps) = true
  · have h3 := hg h w hw
    have : ∃ v, LoVal Sg v ((execOp a.eval o).run P w) := by
      generalize (execOp a.eval o).run P w = r at *
      cases r with
      | ok n w' =>
        cases n <;> simp only [LoGood] at h3
        case value u => exact ⟨u, rfl⟩
        case skip => exact ⟨undef, rfl⟩
        case enter f args =>
          obtain ⟨e, w'', fr, ⟨v, _, hs, _⟩, _⟩ := h3.2 []
          exact ⟨v, hs⟩
      | halt x w' => simp only [LoGood] at h3
    obtain ⟨v, hv⟩ := this
    exact ⟨v, .inl ⟨h, w, hw, hv⟩⟩
  · exact ⟨undef, .inr ⟨by simpa using h, rfl⟩⟩

theorem LGood.of_same {o : Oper} {a a' : Act} (h : LGood P ops C Sg o a) (he : execOp a'.eval o = execOp a.eval o)
    (hw : Region.wanted o (yielded ops a'.tmps) = Region.wanted o (yielded ops a.tmps)) : LGood P ops C Sg o a' := by
  unfold LGood good at *
  rw [he, hw]
  exact h

theorem LVal.of_same {o : Oper} {a a' : Act} {v : Value} (h : LVal P ops C Sg o a v) (he : execOp a'.eval o = execOp a.eval o)
    (hw : Region.wanted o (yielded ops a'.tmps) = Region.wanted o (yielded ops a.tmps)) : LVal P ops C Sg o a' v := by
  unfold LVal val at *
  rw [he, hw]
  exact h

theorem wpAnyL_first {Q : Act → Prop} {i : Nat} {oi : Oper} {w0 : World} (hC : C w0) (hi : ops[i]? = some oi) (hsel : ∀ (j : Nat) (o : Oper) cs b, ops[j]? = some o → o.op ≠ .select cs b) :
    ∀ (fuel : Nat) (listed : Array Bool) (a : Act),
      (∀ j oj, ops[j]? = some oj → j ≠ i → listed.getD j true = false → (∀ e ∈ oj.after, Region.binds md e = true → e.on ≠ i) → oi.apart ops oj = true) →
      i ∈ Region.ready md ops listed → LGood P ops C Sg oi a →
      (∀ v, LVal P ops C Sg oi a v → wpAnyL P md ops C Sg Q fuel (listed.setIfInBounds i true) (a.put oi.dst v)) → wpAnyL P md ops C Sg Q (fuel + 1) listed a := by
  intro fuel
  induction fuel with
  | zero =>
    intro listed a _ hr hy H
    refine ⟨fun h => (by rw [h] at hr; cases hr), fun j hj => ?_⟩
    by_cases hji : j = i
    · subst hji
      unfold lOp; simp only [hi]
      exact ⟨hy, H⟩
    · obtain ⟨v, hv⟩ := some_val hC hy
      have := ready_mono hj hji
      rw [(H v hv).1] at this
      cases this
  | succ fuel ih =>
    intro listed a hfree hr hy H
    refine ⟨fun h => (by rw [h] at hr; cases hr), fun j hj => ?_⟩
    by_cases hji : j = i
    · subst hji
      unfold lOp; simp only [hi]
      exact ⟨hy, H⟩
    · obtain ⟨hjun, oj, hoj, hall⟩ := mem_ready.1 hj
      have hnot : ∀ e ∈ oj.after, Region.binds md e = true → e.on ≠ i := fun e he hb heq => by
        have h1 := hall e he hb
        have h0 := (mem_ready.1 hr).1
        rw [heq] at h1
        rcases Nat.lt_or_ge i listed.size with h' | h'
        · simp [h'] at h0 h1; rw [h0] at h1; cases h1
        · simp [Array.getElem?_eq_none h'] at h1
      have hap := hfree j oj hoj hji hjun hnot
      obtain ⟨q1, q2, q3⟩ := Oper.apart_spec hap
      have keepG : ∀ u, LGood P ops C Sg oi (a.put oj.dst u) := fun u =>
        hy.of_same (execOp_put oi (fun cs b => hsel i oi cs b hi) a oj.dst u q3) (wanted_put oi a oj.dst u q3)
      have hfree' : ∀ k ok, ops[k]? = some ok → k ≠ i → (listed.setIfInBounds j true).getD k true = false →
          (∀ e ∈ ok.after, Region.binds md e = true → e.on ≠ i) → oi.apart ops ok = true := fun k ok hk hki hun hno => by
        refine hfree k ok hk hki ?_ hno
        by_cases hjk : j = k
        · subst hjk; exact hjun
        · rw [getD_set_ne true hjk] at hun; exact hun
      have ev : ∀ v, execOp (a.put oi.dst v).eval oj = execOp a.eval oj := fun v => execOp_put oj (fun cs b => hsel j oj cs b hoj) a oi.dst v q1
      have wv : ∀ v, Region.wanted oj (yielded ops (a.put oi.dst v).tmps) = Region.wanted oj (yielded ops a.tmps) := fun v => wanted_put oj a oi.dst v q1
      have step : ∀ v, LVal P ops C Sg oi a v → LGood P ops C Sg oj a ∧ ∀ u, LVal P ops C Sg oj a u → wpAnyL P md ops C Sg Q fuel ((listed.setIfInBounds i true).setIfInBounds j true) ((a.put oi.dst v).put oj.dst u) := fun v hv => by
        have h1 := (H v hv).2 j (ready_mono hj hji)
        unfold lOp at h1
        simp only [hoj] at h1
        exact ⟨h1.1.of_same (ev v).symm (wv v).symm, fun u hu => h1.2 u (hu.of_same (ev v) (wv v))⟩
      obtain ⟨v0, hv0⟩ := some_val hC hy
      unfold lOp
      simp only [hoj]
      refine ⟨(step v0 hv0).1, fun u hu => ?_⟩
      refine ih (listed.setIfInBounds j true) (a.put oj.dst u) hfree' (ready_mono hr (Ne.symm hji)) (keepG u) fun v hv => ?_
      have hv' : LVal P ops C Sg oi a v := hv.of_same (execOp_put oi (fun cs b => hsel i oi cs b hi) a oj.dst u q3).symm (wanted_put oi a oj.dst u q3).symm
      have := (step v hv').2 u hu
      rw [Array.setIfInBounds_comm _ _ hji, ← Act.put_comm a v u q2]
      exact this

theorem wpAnyL_lex {Q : Act → Prop} {w0 : World} (hC : C w0) (hs : Region.noSelect ops = true) : ∀ (l : List Oper) (k : Nat) (listed : Array Bool) (a : Act), (∀ j, l[j]? = ops[k + j]?) →
    Region.lexFrom md ops l.length k listed = true → wpLoose P ops C Sg Q l a → wpAnyL P md ops C Sg Q l.length listed a
  | [], _, _, _, _, hB, h => ⟨by simpa [Region.lexFrom] using hB, h⟩
  | o :: l, k, listed, a, hl, hB, h => by
    have h0 : ops[k]? = some o := by simpa using (hl 0).symm
    simp only [List.length_cons, Region.lexFrom, Bool.and_eq_true] at hB
    obtain ⟨⟨hr, hf⟩, hB'⟩ := hB
    have hst : LGood P ops C Sg o a ∧ ∀ v, LVal P ops C Sg o a v → wpLoose P ops C Sg Q l (a.put o.dst v) := by
      unfold wpLoose at h
      by_cases hw : Region.wanted o (yielded ops a.tmps) = true
      · rw [if_pos hw] at h
        refine ⟨fun _ => h.1, fun v hv => ?_⟩
        rcases hv with ⟨_, hv⟩ | ⟨hn, _⟩
        · exact h.2 v hv
        · rw [hw] at hn; cases hn
      · rw [if_neg hw] at h
        refine ⟨fun hw' => absurd hw' hw, fun v hv => ?_⟩
        rcases hv with ⟨hn, _⟩ | ⟨_, rfl⟩
        · exact absurd hn hw
        · exact h
    exact wpAnyL_first hC h0 (Region.noSelect_spec hs) l.length listed a (Region.free_spec h0 hf) (by simpa using hr) hst.1
      fun v hv => wpAnyL_lex hC hs l (k + 1) _ _ (fun j => by have := hl (j + 1); simpa [Nat.add_assoc, Nat.add_comm 1 j] using this) hB' (hst.2 v hv)

theorem wp_region_loose {id : Nat} {Q : Exit → Act → World → Prop} {a : Act} {w : World} {l : List Oper} (Sg : FuncId → Array Value → Value → Prop) (hm : P.follows .mixedOrders = true) (hB : Region.lexB .any l.toArray = true)
    (h : wpLoose P l.toArray (fun w' => ∃ n, w' = w.drewN n) Sg (fun a' => ∀ w', (∃ n, w' = w.drewN n) → Q .normal a' w') l a) : (Code.region id l.toArray true).wp P Q a w := by
  simp only [Region.lexB, Bool.and_eq_true] at hB
  refine wp_region_any hm (wpAny_of_loose (C := fun w' => ∃ n, w' = w.drewN n) (Sg := Sg) (Q := fun a' => ∀ w', (∃ n, w' = w.drewN n) → Q .normal a' w') (fun _ w' hw' h => h w' hw') _ _ _ _ ⟨1, rfl⟩ ?_)
  have := wpAnyL_lex (C := fun w' => ∃ n, w' = w.drewN n) (Sg := Sg) (md := .any) (w0 := w.drewN 0) ⟨0, rfl⟩ hB.1 l 0 (Array.replicate l.length false) a (by simp) (by simpa using hB.2) h
  simpa using this

/-! ### The steps -/
variable {Q : Act → Prop} {a : Act} {o : Oper} {rest : List Oper} {w : World}
theorem wpLoose_nil (h : Q a) : wpLoose P ops C Sg Q [] a := h

theorem good_of_quiet {v : Value} (h : ∀ w, C w → o.quietAt P a C w v) (hs : ∀ w f args w', C w → (execOp a.eval o).run P w ≠ .ok (.enter f args) w') :
    good P C Sg o a ∧ ∀ u, val P C Sg o a u → u = v := by
  constructor
  · intro w hw
    have h1 := h w hw
    have h2 := hs w
    unfold Oper.quietAt at h1
    generalize (execOp a.eval o).run P w = r at *
    cases r with
    | ok n w' =>
      cases n <;> simp only [Oper.quietUpon] at h1 <;> simp only [LoGood]
      case value u => rw [h1.1]; exact hw
      case skip => rw [h1.1]; exact hw
      case enter f args => exact absurd rfl (h2 f args w' hw)
    | halt x w' => simp only [Oper.quietUpon] at h1
  · rintro u ⟨w, hw, hu⟩
    have h1 := h w hw
    have h2 := hs w
    unfold Oper.quietAt at h1
    generalize (execOp a.eval o).run P w = r at *
    cases r with
    | ok n w' =>
      cases n <;> simp only [Oper.quietUpon] at h1 <;> simp only [LoVal] at hu
      case value x => rw [hu, h1.2]
      case skip => rw [hu, h1.2]
      case enter f args => exact absurd rfl (h2 f args w' hw)
    | halt x w' => simp only [Oper.quietUpon] at h1

/-- is it an operation that enters no function -/
def plainOp : Op → Bool
  | .move _ | .assign _ | .pick .. | .load .. | .binOp .. | .unOp .. | .convert .. | .indexAddr .. | .fieldAddr .. | .field .. | .index .. => true
  | .call { callee := .builtin .len, .. } => true
  | _ => false

theorem bind_noEnter {α : Type} {s : Sem α} {g : α → Value} {f : FuncId} {args : Array Value} {w w' : World} : (do let x ← s; pure (Next.value (g x)) : Sem Next).run P w ≠ .ok (.enter f args) w' := by
  rw [Sem.run_bind]
  cases s.run P w with
  | ok x w1 => intro h; cases h
  | halt h w1 => intro h; cases h

theorem plain_noEnter {o : Oper} {a : Act} (h : plainOp o.op = true) (w : World) (f : FuncId) (args : Array Value) (w' : World) : (execOp a.eval o).run P w ≠ .ok (.enter f args) w' := by
  unfold execOp
  cases e : o.op <;> simp only [e, plainOp] at h <;> first | (cases h; done) | skip
  all_goals simp only
  case move => intro h; cases h
  case assign => intro h; cases h
  case call c =>
    obtain ⟨callee, cargs, ct⟩ := c
    cases callee with
    | builtin b =>
      cases b <;> first | (cases h; done) | skip
      simp only [resolve, Sem.run_bind, Sem.run_pure, Result.andThen_ok, invoke, builtin]
      cases Sem.run P (Builtin.len_ ct o.type (Array.map a.eval cargs)) w with
      | ok x w1 => intro h; cases h
      | halt h w1 => intro h; cases h
    | _ => cases h
  case pick => exact bind_noEnter
  all_goals exact bind_noEnter (g := id)

theorem wpLoose_plain (hp : plainOp o.op = true)
    (h : ∀ K : Act → Prop, (∀ a, wpLoose P ops C Sg Q rest a → K a) → if Region.wanted o (yielded ops a.tmps) then o.quiet P a C K else K (a.put o.dst undef)) : wpLoose P ops C Sg Q (o :: rest) a := by
  have h' := h (wpLoose P ops C Sg Q rest) (fun _ h => h)
  unfold wpLoose
  split
  · rename_i hw
    rw [if_pos hw] at h'
    obtain ⟨v, h1, h2⟩ := h'
    obtain ⟨g1, g2⟩ := good_of_quiet (Sg := Sg) h1 (fun w f args w' _ => plain_noEnter hp w f args w')
    exact ⟨g1, fun u hu => by rw [g2 u hu]; exact h2⟩
  · rename_i hw
    rw [if_neg hw] at h'
    exact h'

/-- an operation that hands back any of several values -/
theorem wpLoose_some (hgd : o.guard = none) (V : Value → Prop) (hv : ∀ w, C w → ∃ v w', V v ∧ C w' ∧ (execOp a.eval o).run P w = .ok (.value v) w') (h : ∀ v, V v → wpLoose P ops C Sg Q rest (a.put o.dst v)) : wpLoose P ops C Sg Q (o :: rest) a := by
  have hw : Region.wanted o (yielded ops a.tmps) = true := by simp [Region.wanted, hgd]
  unfold wpLoose
  rw [if_pos hw]
  refine ⟨fun w hw => ?_, ?_⟩
  · obtain ⟨v, w', _, hc, e⟩ := hv w hw
    rw [e]; exact hc
  · rintro u ⟨w, hw, hu⟩
    obtain ⟨v, w', hV, hc, e⟩ := hv w hw
    rw [e] at hu
    change u = v at hu
    subst hu
    exact h _ hV

abbrev Drawn (w : World) : World → Prop := fun w' => ∃ n, w' = w.drewN n

theorem drawn_again {w w' : World} (h : Drawn w w') (j : Nat) : Drawn w (w'.drewN j) := by
  obtain ⟨n, rfl⟩ := h
  exact ⟨n + j, by rw [World.drewN_drewN]⟩

theorem wpLoose_up (hgd : o.guard = none) {S D : TypeId} (hs : P.underlying S = some (.float .f32)) (hd : P.underlying D = some (.float .f64)) (x : Operand) (ho : o.op = .convert S D x) (m : Nat)
    (hx : a.eval x = .float .f32 m) (h : ∀ r, UR m r → wpLoose P ops (Drawn w) Sg Q rest (a.put o.dst (.float .f64 r))) : wpLoose P ops (Drawn w) Sg Q (o :: rest) a := by
  refine wpLoose_some hgd (fun v => ∃ r, UR m r ∧ v = .float .f64 r) (fun w1 hw1 => ?_) (fun v ⟨r, hr, e⟩ => by rw [e]; exact h r hr)
  obtain ⟨r, j, hr, hw⟩ := run_up hs hd m w1
  refine ⟨_, _, ⟨r, hr, rfl⟩, drawn_again hw1 j, ?_⟩
  unfold execOp
  simp only [ho, hx, Sem.run_bind, Sem.run_pure, Result.andThen_ok, hw]

theorem wpLoose_down (hgd : o.guard = none) {S D : TypeId} (hs : P.underlying S = some (.float .f64)) (hd : P.underlying D = some (.float .f32)) (x : Operand) (ho : o.op = .convert S D x) (m : Nat)
    (hx : a.eval x = .float .f64 m) (h : ∀ r, DR m r → wpLoose P ops (Drawn w) Sg Q rest (a.put o.dst (.float .f32 r))) : wpLoose P ops (Drawn w) Sg Q (o :: rest) a := by
  refine wpLoose_some hgd (fun v => ∃ r, DR m r ∧ v = .float .f32 r) (fun w1 hw1 => ?_) (fun v ⟨r, hr, e⟩ => by rw [e]; exact h r hr)
  obtain ⟨r, j, hr, hw⟩ := run_down hs hd m w1
  refine ⟨_, _, ⟨r, hr, rfl⟩, drawn_again hw1 j, ?_⟩
  unfold execOp
  simp only [ho, hx, Sem.run_bind, Sem.run_pure, Result.andThen_ok, hw]

theorem wpLoose_farith (hgd : o.guard = none) (op : BinOp) (t : TypeId) (x y : Operand) (t' : TypeId) (ho : o.op = .binOp op t x y t') (hop : isArith op = true) (k : FloatKind) (m n : Nat)
    (hx : a.eval x = .float k m) (hy : a.eval y = .float k n) (h : ∀ r, FR op k m n r → wpLoose P ops (Drawn w) Sg Q rest (a.put o.dst (.float k r))) : wpLoose P ops (Drawn w) Sg Q (o :: rest) a := by
  refine wpLoose_some hgd (fun v => ∃ r, FR op k m n r ∧ v = .float k r) (fun w1 hw1 => ?_) (fun v ⟨r, hr, e⟩ => by rw [e]; exact h r hr)
  obtain ⟨r, j, hr, hw⟩ := run_farith (P := P) op hop t k m n w1
  refine ⟨_, _, ⟨r, hr, rfl⟩, drawn_again hw1 j, ?_⟩
  have hg : (eqGuard op t x y (.float k m) (.float k n)) = pure () := by
    cases op <;> simp [isArith] at hop <;> rfl
  unfold execOp
  simp only [ho, hx, hy, hg, Sem.run_bind, Sem.run_pure, Result.andThen_ok, hw]

/-- a call of a function, by its contract -/
theorem wpLoose_call (hgd : o.guard = none) (f : FuncId) (args : Array Value) (hr : ∀ w1, (execOp a.eval o).run P w1 = .ok (.enter f args) w1)
    (hc : ∀ w1, Drawn w w1 → Calls P f args w1 fun e w2 => ∃ v, e = .returned v ∧ Sg f args v ∧ Drawn w1 w2) (h : ∀ v, Sg f args v → wpLoose P ops (Drawn w) Sg Q rest (a.put o.dst v)) : wpLoose P ops (Drawn w) Sg Q (o :: rest) a := by
  have hw : Region.wanted o (yielded ops a.tmps) = true := by simp [Region.wanted, hgd]
  unfold wpLoose
  rw [if_pos hw]
  refine ⟨fun w1 hw1 => ?_, ?_⟩
  · rw [hr w1]
    refine ⟨hw1, (hc w1 hw1).mono fun e w2 ⟨v, he, hs, m, hm⟩ => ⟨v, he, hs, ?_⟩⟩
    rw [hm]; exact drawn_again hw1 m
  · rintro u ⟨w1, hw1, hu⟩
    rw [hr w1] at hu
    exact h _ hu
end
end Go.Proofs.YtncjkhdnpioinaaDoor

/- Drawn regions in which memory may be made besides: what is held of the world is that nothing that was there has turned. -/
namespace Go.Proofs.YtncjkhdnpioinaaDoor
open Go.RowKit

section
variable {P : Program} {ops : Array Oper} {C : World → Prop} {Sg : FuncId → Array Value → Value → Prop}

theorem wp_region_looseC {id : Nat} {Q : Exit → Act → World → Prop} {a : Act} {w : World} {l : List Oper} (C : World → Prop) (Sg : FuncId → Array Value → Value → Prop) (hC : C (w.drewN 1)) (hm : P.follows .mixedOrders = true) (hB : Region.lexB .any l.toArray = true)
    (h : wpLoose P l.toArray C Sg (fun a' => ∀ w', C w' → Q .normal a' w') l a) : (Code.region id l.toArray true).wp P Q a w := by
  simp only [Region.lexB, Bool.and_eq_true] at hB
  refine wp_region_any hm (wpAny_of_loose (C := C) (Sg := Sg) (Q := fun a' => ∀ w', C w' → Q .normal a' w') (fun _ w' hw' h => h w' hw') _ _ _ _ hC ?_)
  have := wpAnyL_lex (C := C) (Sg := Sg) (md := .any) (w0 := w.drewN 1) hC hB.1 l 0 (Array.replicate l.length false) a (by simp) (by simpa using hB.2) h
  simpa using this

/-- nothing that was there has turned -/
abbrev Ext (w : World) : World → Prop := fun w' => Below w.heap.size w w'
theorem Ext.start (w : World) : Ext w (w.drewN 1) := below_drewN (Below.refl _ _) 1
theorem Ext.draw {w w' : World} (h : Ext w w') (j : Nat) : Ext w (w'.drewN j) := below_drewN h j

variable {Q : Act → Prop} {a : Act} {o : Oper} {rest : List Oper} {w : World}

theorem wpLoose_val (hgd : o.guard = none) (v : Value) (hv : ∀ w', C w' → (execOp a.eval o).run P w' = .ok (.value v) w') (h : wpLoose P ops C Sg Q rest (a.put o.dst v)) : wpLoose P ops C Sg Q (o :: rest) a :=
  wpLoose_some hgd (· = v) (fun w' hw' => ⟨v, w', rfl, hw', hv w' hw'⟩) (fun _ e => by rw [e]; exact h)

theorem wpLoose_valK (hgd : o.guard = none) (v : Value) (hv : ∀ w', C w' → (execOp a.eval o).run P w' = .ok (.value v) w') (h : ∀ K : Act → Prop, (∀ a, wpLoose P ops C Sg Q rest a → K a) → K (a.put o.dst v)) : wpLoose P ops C Sg Q (o :: rest) a :=
  wpLoose_val hgd v hv (h _ fun _ h => h)

theorem wpLoose_farithB (hgd : o.guard = none) (op : BinOp) (t : TypeId) (x y : Operand) (t' : TypeId) (ho : o.op = .binOp op t x y t') (hop : isArith op = true) (k : FloatKind) (m n : Nat)
    (hx : a.eval x = .float k m) (hy : a.eval y = .float k n) (h : ∀ r, FR op k m n r → wpLoose P ops (Ext w) Sg Q rest (a.put o.dst (.float k r))) : wpLoose P ops (Ext w) Sg Q (o :: rest) a := by
  refine wpLoose_some hgd (fun v => ∃ r, FR op k m n r ∧ v = .float k r) (fun w1 hw1 => ?_) (fun v ⟨r, hr, e⟩ => by rw [e]; exact h r hr)
  obtain ⟨r, j, hr, hw⟩ := run_farith (P := P) op hop t k m n w1
  refine ⟨_, _, ⟨r, hr, rfl⟩, Ext.draw hw1 j, ?_⟩
  have hg : (eqGuard op t x y (.float k m) (.float k n)) = pure () := by
    cases op <;> simp [isArith] at hop <;> rfl
  unfold execOp
  simp only [ho, hx, hy, hg, Sem.run_bind, Sem.run_pure, Result.andThen_ok, hw]

/-- a call of a function, by its contract -/
theorem wpLoose_callS (hgd : o.guard = none) (f : FuncId) (args : Array Value) (hr : ∀ w1, (execOp a.eval o).run P w1 = .ok (.enter f args) w1)
    (hc : ∀ w1, Ext w w1 → Calls P f args w1 fun e w2 => ∃ v, e = .returned v ∧ Sg f args v ∧ Below w1.heap.size w1 w2) (h : ∀ v, Sg f args v → wpLoose P ops (Ext w) Sg Q rest (a.put o.dst v)) :
    wpLoose P ops (Ext w) Sg Q (o :: rest) a := by
  have hw : Region.wanted o (yielded ops a.tmps) = true := by simp [Region.wanted, hgd]
  unfold wpLoose
  rw [if_pos hw]
  refine ⟨fun w1 hw1 => ?_, ?_⟩
  · rw [hr w1]
    exact ⟨hw1, (hc w1 hw1).mono fun e w2 ⟨v, he, hs, hb⟩ => ⟨v, he, hs, below_step hw1 hb⟩⟩
  · rintro u ⟨w1, hw1, hu⟩
    rw [hr w1] at hu
    exact h _ hu
end

/-- what was there is there -/
theorem Ext.cell {w w' : World} (h : Ext w w') {p i : Nat} {v : Value} (hv : w.cell? ⟨p, i, none⟩ = some v) : w'.cell? ⟨p, i, none⟩ = some v :=
  (Below.cell h (p := ⟨p, i, none⟩) (cell_lt hv)).trans hv
end Go.Proofs.YtncjkhdnpioinaaDoor

/- A slice of bytes that a call makes itself, and appends to. -/
namespace Go.Proofs.YtncjkhdnpioinaaDoor
open Go.RowKit
set_option linter.unusedVariables false

/-- the value v reads as the list zs of numbers: empty, or a row of cells -/
def URow (w : World) (v : Value) (zs : List Int) : Prop :=
  ((∃ a c, v = .slice a 0 c) ∧ zs = []) ∨
  ∃ b off cap, v = .slice (some ⟨b, off, none⟩) zs.length cap ∧ zs.length ≤ maxLen ∧ ∀ i, i < zs.length → w.cell? ⟨b, off + i, none⟩ = some (.int .u8 (zs.getD i 0))

theorem URow.below {w w' : World} {v : Value} {zs : List Int} (h : URow w v zs) (hb : Below w.heap.size w w') : URow w' v zs := by
  rcases h with h | ⟨b, off, cap, e, hm, hc⟩
  · exact .inl h
  · refine .inr ⟨b, off, cap, e, hm, fun i hi => ?_⟩
    have := hc i hi
    rw [hb.cell (p := ⟨b, off + i, none⟩) (cell_lt this)]
    exact this

theorem URow.drewN {w : World} {v : Value} {zs : List Int} {n : Nat} (h : URow w v zs) : URow (w.drewN n) v zs := h


/-- how long a slice is -/
theorem URow.shape {w : World} {v : Value} {zs : List Int} (h : URow w v zs) : ∃ a cap, v = .slice a zs.length cap := by
  rcases h with ⟨h, rfl⟩ | ⟨b, off, cap, rfl, _⟩
  · exact h
  · exact ⟨_, _, rfl⟩

abbrev slu (p : Nat) (zs : List Int) : Value := .slice (some ⟨p, 0, none⟩) zs.length zs.length
def flu (zs : List Int) : List Value := zs.map (.int .u8)
theorem URow.of_cells {w : World} {p : Nat} {zs : List Int} (h : Cells w p (flu zs)) (hm : zs.length ≤ maxLen) : URow w (slu p zs) zs :=
  .inr ⟨p, 0, _, rfl, hm, fun i hi => by rw [Nat.zero_add]; exact h.1 i _ (by simp [flu, hi, List.getD_eq_getElem?_getD])⟩

theorem URow.cells {w : World} {v : Value} {zs : List Int} (h : URow w v zs) (hn : 1 ≤ zs.length) : ∃ b off cap, v = .slice (some ⟨b, off, none⟩) zs.length cap ∧ ∀ i, i < zs.length → w.cell? ⟨b, off + i, none⟩ = some (.int .u8 (zs.getD i 0)) := by
  rcases h with ⟨_, rfl⟩ | ⟨b, off, cap, e, hm, hc⟩
  · simp at hn
  · exact ⟨b, off, cap, e, hc⟩

theorem URow.len {w : World} {v : Value} {zs : List Int} (h : URow w v zs) : zs.length ≤ 9223372036854775807 := by
  rcases h with ⟨_, rfl⟩ | ⟨_, _, _, _, hm, _⟩
  · simp
  · exact hm

theorem Tryd.rowOfU : (Tryd.prog.info? 5).map (fun i => (i.zero, i.size, i.bytes)) = some (some (.int .u8 0), 1, 1) := by kernel_rfl
theorem infoU : ∃ i, Tryd.prog.info? 5 = some i ∧ i.zero = some (.int .u8 0) ∧ i.size = 1 ∧ i.bytes = 1 := by
  have h := Tryd.rowOfU
  cases e : Tryd.prog.info? 5 with
  | none => rw [e] at h; simp at h
  | some i =>
    rw [e] at h
    simp only [Option.map_some, Option.some.injEq, Prod.mk.injEq] at h
    exact ⟨i, rfl, h.1, h.2.1, h.2.2⟩

/-- a slice of the call's own reads as zs -/
def OwnU (w : World) (base : Nat) (v : Value) (zs : List Int) : Prop := w.ownsRow base 5 1 v zs.length (flu zs)
theorem OwnU.drewN {w : World} {base : Nat} {v : Value} {zs : List Int} (h : OwnU w base v zs) (n : Nat) : OwnU (w.drewN n) base v zs := h
theorem OwnU.al {w : World} {base : Nat} {v : Value} {zs : List Int} (h : OwnU w base v zs) (o : Obj) : OwnU (w.alloc o) base v zs := World.ownsRow.alloc h o
theorem OwnU.kept {w w' : World} {base : Nat} {v : Value} {zs : List Int} (h : OwnU w base v zs) (hb : Below w.heap.size w w') : OwnU w' base v zs := by
  obtain ⟨h1, h2⟩ := h
  refine ⟨h1, ?_⟩
  rcases h2 with h2 | ⟨g, cap, cur, e, hg, hc, h3⟩
  · exact .inl h2
  · refine .inr ⟨g, cap, cur, e, hg, ?_, h3⟩
    have hlt : g < w.heap.size := by
      by_cases hx : g < w.heap.size
      · exact hx
      · rw [Array.getElem?_eq_none (by simpa using hx)] at hc
        cases hc
    rw [hb.block g hlt]
    exact hc
theorem OwnU.down {w : World} {base b' : Nat} {v : Value} {zs : List Int} (h : OwnU w base v zs) (hb : b' ≤ base) : OwnU w b' v zs := by
  obtain ⟨h1, h2⟩ := h
  refine ⟨h1, ?_⟩
  rcases h2 with h2 | ⟨g, cap, cur, e, hg, hc, h3⟩
  · exact .inl h2
  · exact .inr ⟨g, cap, cur, e, Nat.le_trans hb hg, hc, h3⟩
theorem OwnU.row {w : World} {base : Nat} {v : Value} {zs : List Int} (h : OwnU w base v zs) (hm : zs.length ≤ 1048576) : URow w v zs := by
  have h0 := h
  obtain ⟨h1, h2⟩ := h
  have hx : maxLen = 9223372036854775807 := rfl
  rcases h2 with ⟨rfl, hn⟩ | ⟨g, cap, cur, e, hg, hc, h3⟩
  · have : zs = [] := List.length_eq_zero_iff.1 hn
    subst this
    exact .inl ⟨⟨_, _, rfl⟩, rfl⟩
  · refine .inr ⟨g, 0, cap, e, by omega, fun i hi => ?_⟩
    subst e
    rw [Nat.zero_add, World.ownsRow.cellAt h0 i (by omega)]
    simp [flu, hi, List.getD_eq_getElem?_getD]
theorem OwnU.empty (w : World) (base : Nat) (hb : base ≤ w.heap.size) : OwnU (w.alloc (.cells #[] 5)) base (.slice (some ⟨w.heap.size, 0, none⟩) 0 0) [] :=
  World.ownsRow_lit (w := w) (base := base) (e := 5) (size := 1) #[] 0 hb (by decide) rfl

theorem wpList_appU {ops : Array Oper} {rest : List Oper} {o : Oper} {a : Act} {Q : Exit → Act → World → Prop} {w : World} (hgd : o.guard = none) (s x : Operand)
    (ho : o.op = .call { callee := .builtin .append, args := #[s, x], argTypes := #[141, 141] })
    (base : Nat) (v : Value) (zs : List Int) (hs : a.eval s = v) (hown : OwnU w base v zs) (q c : Nat) (z : Int) (hx : a.eval x = .slice (some ⟨q, 0, none⟩) 1 c) (hq : w.cell? ⟨q, 0, none⟩ = some (.int .u8 z))
    (hk : zs.length ≤ 1048576) (hbase : base ≤ w.heap.size)
    (h : ∀ v' w', OwnU w' base v' (zs ++ [z]) → Below base w w' → wpList Tryd.prog ops Q rest (a.put o.dst v') w') : wpList Tryd.prog ops Q (o :: rest) a w := by
  obtain ⟨i, hi, hz, hsz, hby⟩ := infoU
  have hm : maxLen = 9223372036854775807 := rfl
  refine wpList_append_own w hgd s x _ ho base 5 i (.int .u8 0) 1 1 Tryd.underlying141 hi hz hsz hby rfl (by decide) v zs.length (flu zs) hs hown ⟨q, 0, none⟩ 1 c [.int .u8 z] hx rfl (fun j u hj => ?_) (fun u hu => ?_) (by omega) (by omega) hbase (fun v' w' h1 h2 _ => ?_)
  · cases j with
    | zero => simp at hj; subst hj; simpa [Addr.add] using hq
    | succ j => simp at hj
  · simp at hu; subst hu; rfl
  · refine h v' w' ?_ ((Below.refl base w).grown h2 hbase (fun k hk => (World.ownsRow.lt hown k hk).1))
    unfold OwnU
    simpa [flu] using h1

theorem OwnU.openS {w : World} {base : Nat} {v : Value} {zs : List Int} (h : OwnU w base v zs) (hn : 1 ≤ zs.length) : ∃ g cap, v = .slice (some ⟨g, 0, none⟩) zs.length cap := by
  obtain ⟨h1, h2⟩ := h
  rcases h2 with ⟨_, h2⟩ | ⟨g, cap, cur, e, _⟩
  · omega
  · exact ⟨g, cap, e⟩
theorem OwnU.cellAt {w : World} {base g n cap : Nat} {zs : List Int} (h : OwnU w base (.slice (some ⟨g, 0, none⟩) n cap) zs) (i : Nat) (hi : i < zs.length) : w.cell? ⟨g, i, none⟩ = some (.int .u8 (zs.getD i 0)) := by
  have h0 := h
  obtain ⟨h1, h2⟩ := h
  rcases h2 with ⟨h2, _⟩ | ⟨g', cap', cur, e, hg, hc, h3⟩
  · cases h2
  · cases e
    rw [World.ownsRow.cellAt h0 i (by omega)]
    simp [flu, hi, List.getD_eq_getElem?_getD]
theorem OwnU.nil (w : World) (base : Nat) : OwnU w base (.slice none 0 0) [] := ⟨rfl, .inl ⟨rfl, rfl⟩⟩

end Go.Proofs.YtncjkhdnpioinaaDoor

/- Whole lists of bytes appended; texts as bytes. -/
namespace Go.Proofs.YtncjkhdnpioinaaDoor
open Go.RowKit
set_option linter.unusedVariables false

/-- a whole list appended -/
theorem wpList_catU {ops : Array Oper} {rest : List Oper} {o : Oper} {a : Act} {Q : Exit → Act → World → Prop} {w : World} (hgd : o.guard = none) (s x : Operand)
    (ho : o.op = .call { callee := .builtin .append, args := #[s, x], argTypes := #[141, 141] })
    (base : Nat) (v : Value) (zs ys : List Int) (hs : a.eval s = v) (hown : OwnU w base v zs) (q off c : Nat) (hx : a.eval x = .slice (some ⟨q, off, none⟩) ys.length c) (hq : ∀ i, i < ys.length → w.cell? ⟨q, off + i, none⟩ = some (.int .u8 (ys.getD i 0)))
    (hk : zs.length ≤ 1048576) (hk2 : ys.length ≤ 1048576) (hbase : base ≤ w.heap.size)
    (h : ∀ v' w', OwnU w' base v' (zs ++ ys) → Below base w w' → wpList Tryd.prog ops Q rest (a.put o.dst v') w') : wpList Tryd.prog ops Q (o :: rest) a w := by
  obtain ⟨i, hi, hz, hsz, hby⟩ := infoU
  have hm : maxLen = 9223372036854775807 := rfl
  refine wpList_append_own w hgd s x _ ho base 5 i (.int .u8 0) 1 1 Tryd.underlying141 hi hz hsz hby rfl (by decide) v zs.length (flu zs) hs hown ⟨q, off, none⟩ ys.length c (flu ys) hx (by simp [flu]) (fun j u hj => ?_) (fun u hu => ?_) (by omega) (by omega) hbase (fun v' w' h1 h2 _ => ?_)
  · have hjl : j < ys.length := by
      by_cases hl : j < ys.length
      · exact hl
      · rw [List.getElem?_eq_none (by simpa [flu] using hl)] at hj
        cases hj
    have e : u = .int .u8 (ys.getD j 0) := by
      simp [flu, hjl] at hj
      simp [← hj, List.getD_eq_getElem?_getD, hjl]
    rw [e]
    have h2 := hq j hjl
    by_cases hj0 : j = 0
    · subst hj0
      first | (simp [Addr.add]; done) | simpa [Addr.add] using h2
    · first | (simp [Addr.add, hj0]; done) | simpa [Addr.add, hj0] using h2
  · simp [flu] at hu
    obtain ⟨z, _, rfl⟩ := hu
    rfl
  · refine h v' w' ?_ ((Below.refl base w).grown h2 hbase (fun k hk => (World.ownsRow.lt hown k hk).1))
    unfold OwnU
    simpa [flu] using h1


theorem OwnU.lit (w : World) (base : Nat) (hb : base ≤ w.heap.size) (a b c d : Int) : OwnU (w.alloc (.cells #[.int .u8 a, .int .u8 b, .int .u8 c, .int .u8 d] 5)) base (.slice (some ⟨w.heap.size, 0, none⟩) 4 4) [a, b, c, d] :=
  World.ownsRow_lit (w := w) (base := base) (e := 5) (size := 1) #[.int .u8 a, .int .u8 b, .int .u8 c, .int .u8 d] 4 hb (by decide) rfl
/-- a text's bytes as integers -/
def nums (s : ByteArray) : List Int := s.data.toList.map fun b => (b.toNat : Int)
theorem nums_len (s : ByteArray) : (nums s).length = s.size := by
  unfold nums; rw [List.length_map, Array.length_toList]; rfl
theorem str_nums (s : ByteArray) : strOfNums (nums s) = s := by
  obtain ⟨d⟩ := s
  unfold strOfNums nums
  congr 1
  rw [List.map_map]
  have : ((fun n : Int => UInt8.ofNat n.toNat) ∘ fun b : UInt8 => (b.toNat : Int)) = id := by funext b; simp
  rw [this]; simp
theorem str_app (xs ys : List Int) : strOfNums (xs ++ ys) = strOfNums xs ++ strOfNums ys := by
  unfold strOfNums
  apply ByteArray.ext
  simp
theorem nums_str {xs : List Int} (h : ∀ x ∈ xs, 0 ≤ x ∧ x < 256) : nums (strOfNums xs) = xs := by
  unfold nums
  rw [strOfNums_data, List.map_map]
  refine (List.map_congr_left (fun x hx => ?_)).trans (List.map_id _)
  have := h x hx
  simp
  omega
/-- the row that a text's bytes make -/
theorem bytes_cell (w : World) (s : ByteArray) (fz : Nat × Nat) (cap : Nat) (i : Nat) (hi : i < (nums s).length) : (w.alloc (.cells (bytesRow s cap) 5 fz)).cell? ⟨w.heap.size, 0 + i, none⟩ = some (.int .u8 ((nums s).getD i 0)) := by
  rw [nums_len] at hi
  have hd : i < s.data.size := hi
  have h1 : (s.data.toList.map (fun b : UInt8 => (b.toNat : Int)))[i]? = some (s.data[i].toNat : Int) := by
    rw [List.getElem?_map, List.getElem?_eq_getElem (by simpa using hd)]; simp
  have hn : (nums s).getD i 0 = (s.data[i].toNat : Int) := by
    unfold nums; rw [List.getD_eq_getElem?_getD, h1]; rfl
  have hb : (w.alloc (.cells (bytesRow s cap) 5 fz)).heap[w.heap.size]? = some (.cells (bytesRow s cap) 5 fz) := by
    show (w.heap.push _)[_]? = _; simp
  have hr : (bytesRow s cap)[i]? = some (.int .u8 (s.data[i].toNat : Int)) := by
    unfold bytesRow
    rw [Array.getElem?_append_left (by simpa using hd)]
    simp only [Array.getElem?_map, Array.getElem?_eq_getElem hd, Option.map_some]
  rw [hn, Nat.zero_add]
  simp only [World.cell?, hb]
  simpa using hr
theorem wpList_head {ops : Array Oper} {rest : List Oper} {o : Oper} {a : Act} {Q : Exit → Act → World → Prop} {w : World} (hgd : o.guard = none) (s x : Operand)
    (ho : o.op = .call { callee := .builtin .append, args := #[s, x], argTypes := #[141, 141] })
    (p : Nat) (hs : a.eval s = .slice (some ⟨p, 0, none⟩) 4 4) (b c d e : Int) (hb : w.cell? ⟨p, 0, none⟩ = some (.int .u8 b)) (hc : w.cell? ⟨p, 1, none⟩ = some (.int .u8 c)) (hd : w.cell? ⟨p, 2, none⟩ = some (.int .u8 d)) (he : w.cell? ⟨p, 3, none⟩ = some (.int .u8 e))
    (q n : Nat) (z : Int) (hx : a.eval x = .slice (some ⟨q, 0, none⟩) 1 n) (hq : w.cell? ⟨q, 0, none⟩ = some (.int .u8 z))
    (h : ∀ v' w', OwnU w' w.heap.size v' ([b, c, d, e] ++ [z]) → Below w.heap.size w w' → wpList Tryd.prog ops Q rest (a.put o.dst v') w') : wpList Tryd.prog ops Q (o :: rest) a w := by
  obtain ⟨i, hi, hz, hsz, hby⟩ := infoU
  refine wpList_append_grows w hgd s x 141 ho 5 i (.int .u8 0) 1 1 Tryd.underlying141 hi hz hsz hby rfl (by decide) (some ⟨p, 0, none⟩) 4 4 [.int .u8 b, .int .u8 c, .int .u8 d, .int .u8 e] hs (by intro h; cases h) rfl (fun bb hbb j u hj => ?_) ⟨q, 0, none⟩ 1 n [.int .u8 z] hx rfl (fun j u hj => ?_) (fun u hu => ?_) (by decide) (by decide) (by decide) (fun v' w' h1 h2 => ?_)
  · cases hbb
    match j, hj with
    | 0, hj => cases hj; simpa [Addr.add] using hb
    | 1, hj => cases hj; simpa [Addr.add] using hc
    | 2, hj => cases hj; simpa [Addr.add] using hd
    | 3, hj => cases hj; simpa [Addr.add] using he
    | j + 4, hj => simp at hj
  · cases j with
    | zero => simp at hj; subst hj; simpa [Addr.add] using hq
    | succ j => simp at hj
  · simp at hu; subst hu; rfl
  · exact h v' w' h1 ((Below.refl w.heap.size w).grown h2 (Nat.le_refl _) (fun _ hk => by cases hk))

end Go.Proofs.YtncjkhdnpioinaaDoor

/- strconv.FormatInt at base 16: the library's text, walked. -/
namespace Go.Proofs.YtncjkhdnpioinaaDoor
open Go.RowKit
set_option linter.unusedVariables false

theorem tz64_any (w : World) (h : w.cell? ⟨8, 15, none⟩ = some (.int .u8 4)) : Calls Tryd.prog 233 #[.int .u64 16] w fun e w' => e = .returned (.int .i64 4) ∧ w = w' := by
  have h1 : bits BinOp.and IntKind.u64 16 (IntKind.u64.wrap (-16)) = 16 := by decide +kernel
  have h2 : IntKind.u64.wrap (16 * 285870213051353865) = 4573923408821661840 := by decide +kernel
  go_enter Tryd.func233, Tryd.ntmps233
  go_wp2
  go_ret
  exact ⟨rfl, rfl⟩
theorem pow2_any (w : World) : Calls Tryd.prog 229 #[.int .i64 16] w fun e w' => e = .returned (.bool true) ∧ w = w' := by
  go_enter Tryd.func229, Tryd.ntmps229
  go_wp2
  go_ret
  exact ⟨rfl, rfl⟩
theorem tz_any (w : World) (h : w.cell? ⟨8, 15, none⟩ = some (.int .u8 4)) : Calls Tryd.prog 230 #[.int .u64 16] w fun e w' => e = .returned (.int .i64 4) ∧ w = w' := by
  go_enter Tryd.func230, Tryd.ntmps230
  go_wp2_with (go_at_call 233; refine (tz64_any _ h).mono ?_; rintro e w1 ⟨rfl, rfl⟩)
  go_ret
  exact ⟨rfl, rfl⟩
theorem u64_and15 (a : Nat) (ha : a < 18446744073709551616) : bits .and .u64 (a : Int) 15 = ((a % 16 : Nat) : Int) := by
  show IntKind.u64.wrap ((BitVec.ofInt 64 (a : Int) &&& BitVec.ofInt 64 ((15 : Nat) : Int)).toNat : Int) = _
  have e1 : (BitVec.ofInt 64 (a : Int)).toNat = a := by rw [BitVec.toNat_ofInt]; omega
  have e2 : (BitVec.ofInt 64 ((15 : Nat) : Int)).toNat = 15 := by decide +kernel
  rw [BitVec.toNat_and, e1, e2, show a &&& 15 = a % 16 from Nat.and_two_pow_sub_one_eq_mod a 4]
  unfold IntKind.wrap
  simp [IntKind.bits, IntKind.signed]
  omega
/-- the table of digits, as Go writes it -/
abbrev digZ : ByteArray := ⟨#[48, 49, 50, 51, 52, 53, 54, 55, 56, 57, 97, 98, 99, 100, 101, 102, 103, 104, 105, 106, 107, 108, 109, 110, 111, 112, 113, 114, 115, 116, 117, 118, 119, 120, 121, 122]⟩
theorem dig_at (d : Nat) (h16 : d < 16) (h : d < ((⟨#[48, 49, 50, 51, 52, 53, 54, 55, 56, 57, 97, 98, 99, 100, 101, 102, 103, 104, 105, 106, 107, 108, 109, 110, 111, 112, 113, 114, 115, 116, 117, 118, 119, 120, 121, 122]⟩ : ByteArray)).size) : ((((⟨#[48, 49, 50, 51, 52, 53, 54, 55, 56, 57, 97, 98, 99, 100, 101, 102, 103, 104, 105, 106, 107, 108, 109, 110, 111, 112, 113, 114, 115, 116, 117, 118, 119, 120, 121, 122]⟩ : ByteArray))[d]'h).toNat : Int) = hd d := by
  match d, h16 with
  | 0, _ => rfl
  | 1, _ => rfl
  | 2, _ => rfl
  | 3, _ => rfl
  | 4, _ => rfl
  | 5, _ => rfl
  | 6, _ => rfl
  | 7, _ => rfl
  | 8, _ => rfl
  | 9, _ => rfl
  | 10, _ => rfl
  | 11, _ => rfl
  | 12, _ => rfl
  | 13, _ => rfl
  | 14, _ => rfl
  | 15, _ => rfl
  | d + 16, h => omega
/-- the array while the loop runs -/
def rowf (u k j : Nat) : Value := .int .u8 (if 65 - k ≤ j then hx u (64 - j) else 0)
theorem rowf_step {u k : Nat} (hk : k ≤ 7) (j : Nat) (hj : j < 65) : (if j = 64 - k then (.int .u8 (hd (u / 16 ^ k % 16)) : Value) else rowf u k j) = rowf u (k + 1) j := by
  unfold rowf
  by_cases e : j = 64 - k
  · rw [if_pos e, if_pos (by omega)]
    subst e
    unfold hx
    rw [show 64 - (64 - k) = k from by omega]
  · rw [if_neg e]
    by_cases e2 : 65 - k ≤ j
    · rw [if_pos e2, if_pos (by omega)]
    · rw [if_neg e2, if_neg (by omega)]
theorem sl65 (b k : Nat) (hk : k ≤ 7) (w : World) : (Instr.sliceAt 258 (.pointer (some ⟨b, 0, none⟩)) (some (.int .i64 (65 - (k : Int) - 1))) none none).run Tryd.prog w = .ok (.slice (some ⟨b, 64 - k, none⟩) (k + 1) (k + 1)) w := by
  have hL : Tryd.prog.arrayLen 258 = 65 := by kernel_rfl
  have hS : (sizeOf (Tryd.prog.elem 258)).run Tryd.prog w = .ok 1 w := by kernel_rfl
  rw [run_sliceAt_array_l w 258 _ (by kernel_rfl) .i64 _ (by omega) (by rw [hL]; omega), hS, hL]
  have e : (65 - (k : Int) - 1).toNat = 64 - k := by omega
  simp only [Result.andThen_ok, slicedAt, e]
  rw [if_neg (by omega)]
  simp [Addr.add]
  omega
def Fmt16 (u : Nat) (w : World) (e : Ending) (w' : World) : Prop := ∃ k, k ≤ 7 ∧ u < 16 ^ (k + 1) ∧ e = .returned (.tuple #[.slice none 0 0, .string (strOfNums (hexK u k))]) ∧ Below w.heap.size w w'
theorem row0 (w : World) : (w.alloc (.cells Tryd.zeroCells258 258)).rowIs w.heap.size 258 65 (fun _ => .int .u8 0) := by
  have e : Tryd.zeroCells258 = Array.replicate 65 (.int .u8 0) := by kernel_rfl
  rw [e]
  have h := World.rowIs_alloc w (Array.replicate 65 (.int .u8 0)) 258 (fun _ => .int .u8 0) (fun i hi => by simp at hi; simp [hi])
  simpa using h
set_option maxHeartbeats 1600000 in
set_option maxRecDepth 20000 in
theorem fmtBits_any (u : Nat) (w : World) (hu : u < 4294967296) (h : ∀ w1, Below w.heap.size w w1 → w1.cell? ⟨8, 15, none⟩ = some (.int .u8 4)) : Calls Tryd.prog 218 #[.slice none 0 0, .int .u64 u, .int .i64 16, .bool false, .bool false] w (Fmt16 u w) := by
  have H := Lib.hid h
  have HU := Lib.hid hu
  have R0 := Lib.hid (row0 w)
  clear h
  go_enter Tryd.func218, Tryd.ntmps218
  go_wp2_with (first
    | (go_at_call 229; refine (pow2_any _).mono ?_; rintro e w1 ⟨rfl, rfl⟩)
    | (go_at_call 230; refine (tz_any _ (H.out _ (below_al1 w _))).mono ?_; rintro e w1 ⟨rfl, rfl⟩)
    | go_in)
  go_loopw [1, 13] (fun x i wr => ∃ k x' : Nat, k ≤ 7 ∧ x = .int .u64 (x' : Int) ∧ i = .int .i64 (65 - (k : Int)) ∧ Hid (x' = u / 16 ^ k) ∧ Hid (Below w.heap.size w wr) ∧ Hid (wr.rowIs w.heap.size 258 65 (rowf u k))) (fun _ i _ => (intOf i).toNat)
  case atStart => exact ⟨0, u, by omega, rfl, rfl, Lib.hid (by simp), Lib.hid (below_al1 w _), Lib.hid (R0.out.congr (fun i hi => by unfold rowf; rw [if_neg (by omega)]))⟩
  case round =>
    obtain ⟨k, x, hk, rfl, rfl, hx0, hb, hr⟩ := hrel
    by_cases hge : 16 ≤ x
    · have hk6 : k ≤ 6 := by
        have h1 := hx0.out
        have h2 := HU.out
        by_cases e : k = 7
        · subst e; omega
        · omega
      have A1 := u64_and15 x (by have h1 := hx0.out; have h2 := HU.out; have := Nat.div_le_self u (16 ^ k); omega)
      have D1 := dig_at (x % 16) (by omega) (Nat.lt_of_lt_of_le (show x % 16 < 16 by omega) (by decide))
      have E1 : (65 - (k : Int) - 1).toNat = 64 - k := by omega
      have E2 : 65 - (k : Int) - 1 = 65 - ((k + 1 : Nat) : Int) := by omega
      have C0 := hr.out.cell (i := 64 - k) (by omega)
      have F0 := hr.out.frozen (64 - k)
      have R2 := Lib.hid (hr.out.set (64 - k) (.int .u8 (hd (x % 16))))
      have B2 := Lib.hid (hb.out.setCell (p := ⟨w.heap.size, 64 - k, none⟩) (Nat.le_refl _) (.int .u8 (hd (x % 16))))
      have HE := Lib.hid E2
      clear E2
      go_wp2
      go_roundw
      case rel =>
        refine ⟨k + 1, x / 16, by omega, by go_num, by rw [HE.out], Lib.hid ?_, B2, Lib.hid (R2.out.congr (fun j hj => ?_))⟩
        · rw [hx0.out, Nat.pow_succ, Nat.div_div_eq_div_mul]
        · rw [hx0.out]; exact rowf_step (by omega) j hj
      case measure => simp [intOf]; omega
    · have hlt : x < 16 := by omega
      have HK : Hid (u < 16 ^ (k + 1)) := Lib.hid (by
        have h1 := hx0.out
        rw [Nat.pow_succ]
        rw [Nat.mul_comm]; exact (Nat.div_lt_iff_lt_mul (Nat.pow_pos (show 0 < 16 by decide))).1 (by rw [← h1]; exact hlt))
      have D1 := dig_at x hlt (Nat.lt_of_lt_of_le hlt (by decide))
      have E1 : (65 - (k : Int) - 1).toNat = 64 - k := by omega
      have C0 := hr.out.cell (i := 64 - k) (by omega)
      have F0 := hr.out.frozen (64 - k)
      have R2 := Lib.hid (hr.out.set (64 - k) (.int .u8 (hd x)))
      have B2 := Lib.hid (hb.out.setCell (p := ⟨w.heap.size, 64 - k, none⟩) (Nat.le_refl _) (.int .u8 (hd x)))
      have R3 : Hid ((wr.setCell ⟨w.heap.size, 64 - k, none⟩ (.int .u8 (hd x))).rowIs w.heap.size 258 65 (rowf u (k + 1))) := Lib.hid (R2.out.congr (fun j hj => by
        have h1 := hx0.out
        have e : x = u / 16 ^ k % 16 := by omega
        conv => lhs; rw [e]
        exact rowf_step (by omega) j hj))
      have HL := hexK_len u k
      have HC := run_convert_bytes_arg (P := Tryd.prog) (wr.setCell ⟨w.heap.size, 64 - k, none⟩ (.int .u8 (hd x))) 141 5 Tryd.underlying141 Tryd.underlying5 w.heap.size (64 - k) (k + 1) (k + 1) (hexK u k) (by omega) (fun i hi => by
        have hi : i < k + 1 := by simpa [HL] using hi
        rw [R3.out.cell (i := 64 - k + i) (by omega)]
        unfold rowf
        rw [if_pos (by omega), List.getD_eq_getElem?_getD, hexK_at u k i (by omega), show 64 - (64 - k + i) = k - i from by omega]
        rfl) 9 Tryd.underlying9
      have HS := sl65 w.heap.size k hk (wr.setCell ⟨w.heap.size, 64 - k, none⟩ (.int .u8 (hd x)))
      clear hx0 R2 HL
      go_wp2
      go_ret2
      exact ⟨k, hk, HK.out, rfl, B2.out⟩
theorem fmtI16_any (u : Nat) (w : World) (hu : u < 4294967296) (h : ∀ w1, Below w.heap.size w w1 → w1.cell? ⟨8, 15, none⟩ = some (.int .u8 4)) : Calls Tryd.prog 197 #[.int .i64 u, .int .i64 16] w fun e w' => ∃ k, k ≤ 7 ∧ u < 16 ^ (k + 1) ∧ e = .returned (.string (strOfNums (hexK u k))) ∧ Below w.heap.size w w' := by
  have HC := Lib.hid (fmtBits_any u w hu h)
  have hw : IntKind.u64.wrap (u : Int) = u := by unfold IntKind.wrap; simp [IntKind.bits, IntKind.signed]; omega
  have hn : decide ((u : Int) < 0) = false := by simp
  clear h
  go_enter Tryd.func197, Tryd.ntmps197
  go_wp2_with fail
  refine HC.out.mono ?_
  rintro e w1 ⟨k, hk, hK, rfl, hb⟩
  have H := Lib.hid (And.intro hk (And.intro hK hb))
  clear hk hK hb
  go_wp2
  go_ret
  exact ⟨k, H.out.1, H.out.2.1, rfl, H.out.2.2⟩
theorem fmt16_any (u : Nat) (w : World) (hu : u < 4294967296) (h : Tabs w) : Calls Tryd.prog 167 #[.int .i64 u, .int .i64 16] w fun e w' => ∃ k, k ≤ 7 ∧ u < 16 ^ (k + 1) ∧ e = .returned (.string (strOfNums (hexK u k))) ∧ Below w.heap.size w w' := by
  have HC := Lib.hid (fmtI16_any u w hu (fun w1 hb => (h.below hb).d64.cell (g := 8) (by kernel_rfl) 15 (by decide)))
  clear h
  go_enter Tryd.func167, Tryd.ntmps167
  go_wp2_with fail
  refine HC.out.mono ?_
  rintro e w1 ⟨k, hk, hK, rfl, hb⟩
  have H := Lib.hid (And.intro hk (And.intro hK hb))
  clear hk hK hb
  go_wp2
  go_ret
  exact ⟨k, H.out.1, H.out.2.1, rfl, H.out.2.2⟩
end Go.Proofs.YtncjkhdnpioinaaDoor

/- A number as eight hexadecimal digits: both sides. -/
namespace Go.Proofs.YtncjkhdnpioinaaDoor
open Go.RowKit
set_option linter.unusedVariables false

/-- the bits of a number, as the document tells them -/
def hbit (a : Nat) : Nat := if nn .f32 a then 2143289344 else a
theorem hbit_lt {a : Nat} (h : (Lit.float .f32 a).wf = true) : hbit a < 4294967296 := by
  have := wf32 h
  unfold hbit; split <;> omega
theorem specHb_any (a : Nat) (w : World) (wa : (Lit.float .f32 a).wf = true) :
    Calls Tryd.prog 161 #[.float .f32 a] w fun e w' => e = .returned (.int .i64 (hbit a)) ∧ w = w' := by
  have ho := order_self (k := .f32) (x := a)
  have hl := wf32 wa
  cases hn : nn .f32 a
  · rw [hn] at ho; simp only [Bool.false_eq_true, if_false] at ho
    go_enter Tryd.func161, Tryd.ntmps161
    go_wp2
    go_ret
    exact ⟨by simp [hbit, hn], rfl⟩
  · rw [hn] at ho; simp only [if_true] at ho
    go_enter Tryd.func161, Tryd.ntmps161
    go_wp2
    go_ret
    exact ⟨by simp [hbit, hn], rfl⟩
theorem implHb_any (a : Nat) (w : World) (wa : (Lit.float .f32 a).wf = true) :
    Calls Tryd.prog 176 #[.float .f32 a] w fun e w' => e = .returned (.int .i64 (hbit a)) ∧ w = w' := by
  have ho := order_self (k := .f32) (x := a)
  have hl := wf32 wa
  cases hn : nn .f32 a
  · rw [hn] at ho; simp only [Bool.false_eq_true, if_false] at ho
    go_enter Tryd.func176, Tryd.ntmps176
    go_wp2
    go_ret
    exact ⟨by simp [hbit, hn], rfl⟩
  · rw [hn] at ho; simp only [if_true] at ho
    go_enter Tryd.func176, Tryd.ntmps176
    go_wp2
    go_ret
    exact ⟨by simp [hbit, hn], rfl⟩
def hexZ (a : Nat) : ByteArray := strOfNums (hexL (hbit a))
theorem hexZ_size (a : Nat) : (hexZ a).size = 8 := by unfold hexZ; rw [strOfNums_size, hexL_len]
theorem rep_str (n : Nat) : (⟨(Lib.repeatL [48] n).toArray⟩ : ByteArray) = strOfNums (List.replicate n 48) := by
  unfold strOfNums
  congr 2
  induction n with
  | zero => rfl
  | succ n ih => rw [List.replicate_succ, List.map_cons, ← ih]; rfl

theorem dig16_at (d : Nat) (h16 : d < 16) (h : d < ((⟨#[48, 49, 50, 51, 52, 53, 54, 55, 56, 57, 97, 98, 99, 100, 101, 102]⟩ : ByteArray)).size) : ((((⟨#[48, 49, 50, 51, 52, 53, 54, 55, 56, 57, 97, 98, 99, 100, 101, 102]⟩ : ByteArray))[d]'h).toNat : Int) = hd d := by
  match d, h16 with
  | 0, _ => rfl
  | 1, _ => rfl
  | 2, _ => rfl
  | 3, _ => rfl
  | 4, _ => rfl
  | 5, _ => rfl
  | 6, _ => rfl
  | 7, _ => rfl
  | 8, _ => rfl
  | 9, _ => rfl
  | 10, _ => rfl
  | 11, _ => rfl
  | 12, _ => rfl
  | 13, _ => rfl
  | 14, _ => rfl
  | 15, _ => rfl
  | d + 16, h => omega
theorem nib (u m : Nat) (hu : u < 4294967296) (hm : m < 8) : bits BinOp.and IntKind.i64 ((u : Int) / 2 ^ (28 - 4 * m)) 15 = ((u / 16 ^ (7 - m) % 16 : Nat) : Int) := by
  have e1 : 2 ^ (28 - 4 * m) = 16 ^ (7 - m) := by
    rw [show 28 - 4 * m = 4 * (7 - m) from by omega, Nat.pow_mul]
  have e2 : (u : Int) / 2 ^ (28 - 4 * m) = ((u / 16 ^ (7 - m) : Nat) : Int) := by
    rw [← e1]; simp
  have hle := Nat.div_le_self u (16 ^ (7 - m))
  rw [e2, show (15 : Int) = ((15 : Nat) : Int) from rfl, i64_and_nat _ _ (by omega) (by decide)]
  rw [show (u / 16 ^ (7 - m)) &&& 15 = u / 16 ^ (7 - m) % 16 from Nat.and_two_pow_sub_one_eq_mod _ 4]
end Go.Proofs.YtncjkhdnpioinaaDoor

/- Bytes of texts. -/
namespace Go.Proofs.YtncjkhdnpioinaaDoor
open Go.RowKit
set_option linter.unusedVariables false

def byteAt (s : ByteArray) (k : Nat) : Int := (s.data.toList.getD k 0).toNat
theorem byteAt_bd (s : ByteArray) (k : Nat) : 0 ≤ byteAt s k ∧ byteAt s k ≤ 255 := by
  unfold byteAt
  have := (s.data.toList.getD k 0).toNat_lt
  omega
theorem byteAt_eq (s : ByteArray) (k : Nat) (h : k < s.size) : (s[k].toNat : Int) = byteAt s k := by
  unfold byteAt
  have h' : k < s.data.size := h
  have e : s.data.toList.getD k 0 = s[k] := by
    rw [List.getD_eq_getElem?_getD, List.getElem?_eq_getElem (by simpa using h')]
    rfl
  rw [e]

end Go.Proofs.YtncjkhdnpioinaaDoor

/- A text cut at a mark of one byte: the parts, what they are at the first mark, and what the last part tells. No program stands in this text. -/
namespace Go.Proofs.YtncjkhdnpioinaaDoor
open Go
set_option linter.unusedVariables false

abbrev mkZ (c : UInt8) : ByteArray := ⟨#[c]⟩
/-- the parts of a text between marks -/
def cutZ (c : UInt8) (s : ByteArray) : List ByteArray := Lib.splitB (mkZ c) 0 (Lib.countB s (mkZ c)) s

theorem occ_one (s : List UInt8) (c : UInt8) (i : Nat) : Lib.occAt s [c] i = (s[i]? == some c) := by
  unfold Lib.occAt
  cases h : s.drop i with
  | nil =>
    have : s[i]? = none := by rw [List.getElem?_eq_none]; exact List.drop_eq_nil_iff.1 h
    rw [this]; rfl
  | cons a t =>
    have : s[i]? = some a := by
      have := congrArg (·[0]?) h
      simpa [List.getElem?_drop] using this
    rw [this]
    simp only [List.isPrefixOf, Bool.and_true]
    simp [BEq.comm]
theorem idx_none {s : ByteArray} {c : UInt8} (h : ∀ j, j < s.size → s.data.toList[j]? ≠ some c) : Lib.indexB s (mkZ c) = -1 := by
  refine Lib.index_none (fun j hj => ?_)
  show Lib.occAt s.data.toList [c] j = false
  rw [occ_one]
  by_cases hlt : j < s.size
  · simpa using h j hlt
  · have : s.data.toList[j]? = none := by rw [List.getElem?_eq_none]; have e := Lib.size_eq s; omega
    rw [this]; rfl
theorem idx_at {s : ByteArray} {c : UInt8} {i : Nat} (h : ∀ j, j < i → s.data.toList[j]? ≠ some c) (hi : s.data.toList[i]? = some c) : Lib.indexB s (mkZ c) = i := by
  have hlt : i < s.data.toList.length := by
    by_cases hx : i < s.data.toList.length
    · exact hx
    · rw [List.getElem?_eq_none (Nat.le_of_not_lt hx)] at hi; cases hi
  refine Lib.index_first (Nat.le_of_lt hlt) ?_ (fun j hj => ?_)
  · show Lib.occAt s.data.toList [c] i = true
    rw [occ_one, hi]; simp
  · show Lib.occAt s.data.toList [c] j = false
    rw [occ_one]; simpa using h j hj
theorem cutZ_none {s : ByteArray} {c : UInt8} (h : ∀ j, j < s.size → s.data.toList[j]? ≠ some c) : cutZ c s = [s] := by
  unfold cutZ
  rw [Lib.countB_miss _ _ (idx_none h)]
  rfl
theorem cutZ_at {s : ByteArray} {c : UInt8} {i : Nat} (h : ∀ j, j < i → s.data.toList[j]? ≠ some c) (hi : s.data.toList[i]? = some c) : cutZ c s = s.extract 0 i :: cutZ c (s.extract (i + 1) s.size) := by
  have e := idx_at h hi
  unfold cutZ
  rw [Lib.countB_hit s (mkZ c) i (Nat.le_refl 1) e, Nat.add_comm 1, Lib.splitB_hit _ _ _ _ _ e]
  rfl
theorem ex_ex (s : ByteArray) (a b c d : Nat) (hb : a + d ≤ b) : (s.extract a b).extract c d = s.extract (a + c) (a + d) := by
  apply ByteArray.ext
  apply Array.ext'
  show ((s.extract a b).extract c d).data.toList = (s.extract (a + c) (a + d)).data.toList
  rw [Lib.extract_data, Lib.extract_data, Lib.extract_data, List.drop_take, List.drop_drop, List.take_take]
  congr 1
  omega
theorem at_ex (s : ByteArray) (a j : Nat) : (s.extract a s.size).data.toList[j]? = s.data.toList[a + j]? := by
  rw [Lib.extract_to_end, List.getElem?_drop]
theorem size_ex (s : ByteArray) (a : Nat) : (s.extract a s.size).size = s.size - a := by
  rw [Lib.size_eq, Lib.extract_to_end, List.length_drop, ← Lib.size_eq]

/-- a loop that has come to i, the part that is open from f: what is there, and what is to come -/
structure CutAt (c : UInt8) (s : ByteArray) (i f : Nat) (done : List ByteArray) : Prop where
  fi : f ≤ i
  ile : i ≤ s.size
  none : ∀ j, f ≤ j → j < i → s.data.toList[j]? ≠ some c
  all : cutZ c s = done ++ cutZ c (s.extract f s.size)
theorem CutAt.start (c : UInt8) (s : ByteArray) : CutAt c s 0 0 [] :=
  ⟨Nat.le_refl _, Nat.zero_le _, fun j _ h => absurd h (Nat.not_lt_zero _), by
    have : s.extract 0 s.size = s := by
      apply ByteArray.ext; apply Array.ext'
      show (s.extract 0 s.size).data.toList = _
      rw [Lib.extract_to_end]; rfl
    rw [this]; rfl⟩
theorem CutAt.miss {c : UInt8} {s : ByteArray} {i f : Nat} {done : List ByteArray} (h : CutAt c s i f done) (hi : i < s.size) (hc : s.data.toList[i]? ≠ some c) : CutAt c s (i + 1) f done :=
  ⟨Nat.le_succ_of_le h.fi, hi, fun j h1 h2 => by
    by_cases e : j = i
    · subst e; exact hc
    · exact h.none j h1 (by omega), h.all⟩
theorem CutAt.hit {c : UInt8} {s : ByteArray} {i f : Nat} {done : List ByteArray} (h : CutAt c s i f done) (hi : i < s.size) (hc : s.data.toList[i]? = some c) : CutAt c s (i + 1) (i + 1) (done ++ [s.extract f i]) := by
  refine ⟨Nat.le_refl _, hi, fun j h1 h2 => by omega, ?_⟩
  have hfi := h.fi
  rw [h.all, cutZ_at (s := s.extract f s.size) (i := i - f) (fun j hj => by rw [at_ex]; exact h.none _ (by omega) (by omega)) (by rw [at_ex, show f + (i - f) = i from by omega]; exact hc),
    size_ex, ex_ex _ _ _ _ _ (by omega), ex_ex _ _ _ _ _ (by omega), show f + 0 = f from rfl, show f + (i - f) = i from by omega, show f + (i - f + 1) = i + 1 from by omega, show f + (s.size - f) = s.size from by omega]
  simp
theorem CutAt.last {c : UInt8} {s : ByteArray} {f : Nat} {done : List ByteArray} (h : CutAt c s s.size f done) : cutZ c s = done ++ [s.extract f s.size] := by
  rw [h.all, cutZ_none (fun j hj => by rw [size_ex] at hj; rw [at_ex]; exact h.none _ (by omega) (by omega))]

theorem cutZ_length (c : UInt8) (s : ByteArray) : (cutZ c s).length = Lib.countB s (mkZ c) + 1 := Lib.splitB_all (mkZ c) (Nat.le_refl 1) 0 _ s rfl
theorem cutZ_le (c : UInt8) (s : ByteArray) : (cutZ c s).length ≤ s.size + 1 := by
  rw [cutZ_length]
  have := Lib.countB_le (mkZ c) (Nat.le_refl 1) s.size s (Nat.le_refl _)
  omega

theorem getLast_cons_ne {α : Type} (a : α) (l : List α) (d : α) (h : l ≠ []) : (a :: l).getLastD d = l.getLastD d := by
  cases l with
  | nil => exact absurd rfl h
  | cons b t => rfl
/-- the first mark, or none -/
theorem first_mark (c : UInt8) : ∀ (l : List UInt8), (∀ j : Nat, j < l.length → l[j]? ≠ some c) ∨ ∃ i : Nat, (∀ j : Nat, j < i → l[j]? ≠ some c) ∧ l[i]? = some c
  | [] => .inl (fun j h => absurd h (Nat.not_lt_zero _))
  | a :: t => by
    by_cases e : a = c
    · exact .inr ⟨0, fun j h => absurd h (Nat.not_lt_zero _), by simp [e]⟩
    · rcases first_mark c t with h | ⟨i, h, hi⟩
      · refine .inl (fun j hj => ?_)
        cases j with
        | zero => simpa using e
        | succ j => simpa using h j (by simpa using hj)
      · refine .inr ⟨i + 1, fun j hj => ?_, by simpa using hi⟩
        cases j with
        | zero => simpa using e
        | succ j => simpa using h j (by omega)
theorem getLast_at (l : List UInt8) : l.getLast? = l[l.length - 1]? := List.getLast?_eq_getElem?
theorem lt_of_at {l : List UInt8} {i : Nat} {c : UInt8} (h : l[i]? = some c) : i < l.length := by
  by_cases hx : i < l.length
  · exact hx
  · rw [List.getElem?_eq_none (Nat.le_of_not_lt hx)] at h; cases h
/-- the last part is empty where the text is, or ends with a mark -/
theorem cutZ_last (c : UInt8) : ∀ (n : Nat) (s : ByteArray), s.size ≤ n → (((cutZ c s).getLastD ⟨#[]⟩).size = 0 ↔ (s.size = 0 ∨ s.data.toList.getLast? = some c)) := by
  intro n
  induction n with
  | zero =>
    intro s hs
    have h0 : s.size = 0 := by omega
    rw [cutZ_none (fun j hj => by omega)]
    simp [h0]
  | succ n ih =>
    intro s hs
    have hsz := Lib.size_eq s
    rcases first_mark c s.data.toList with h | ⟨i, h, hi⟩
    · rw [cutZ_none (fun j hj => h j (by omega))]
      constructor
      · intro e; exact .inl (by simpa using e)
      · rintro (e | e)
        · simpa using e
        · rw [getLast_at] at e
          have := lt_of_at e
          exact absurd e (h _ (by omega))
    · have hlt := lt_of_at hi
      rw [cutZ_at h hi, getLast_cons_ne _ _ _ (by intro e; have := cutZ_length c (s.extract (i + 1) s.size); rw [e] at this; simp at this)]
      rw [ih (s.extract (i + 1) s.size) (by rw [size_ex]; omega), size_ex, getLast_at, getLast_at, at_ex, Lib.extract_to_end, List.length_drop]
      by_cases e : i + 1 = s.size
      · constructor
        · intro _; refine .inr ?_; rw [show s.data.toList.length - 1 = i from by omega]; exact hi
        · intro _; exact .inl (by omega)
      · rw [show i + 1 + (s.data.toList.length - (i + 1) - 1) = s.data.toList.length - 1 from by omega]
        constructor
        · rintro (x | x)
          · omega
          · exact .inr x
        · rintro (x | x)
          · omega
          · exact .inr x
end Go.Proofs.YtncjkhdnpioinaaDoor

/- Numbers in decimal, digit by digit from the right. No program stands in this text. -/
namespace Go.Proofs.YtncjkhdnpioinaaDoor
open Go

/-- a byte as an integer -/
def nu (l : List UInt8) : List Int := l.map fun b => (b.toNat : Int)
/-- the digits that are still to come -/
def dpre (u : Nat) : List Int := if u = 0 then [] else nu (Lib.decDigits u)
def ddig (u : Nat) : List Int := nu (Lib.decDigits u)
theorem nu_app (a b : List UInt8) : nu (a ++ b) = nu a ++ nu b := by unfold nu; simp
theorem dig_one (d : Nat) (h : d < 10) : nu [UInt8.ofNat (48 + d)] = [48 + (d : Int)] := by
  unfold nu
  simp only [List.map_cons, List.map_nil, List.cons.injEq, and_true]
  rw [UInt8.toNat_ofNat']
  omega
theorem ddig_step (u : Nat) : ddig u = dpre (u / 10) ++ [48 + (u : Int) % 10] := by
  unfold ddig dpre
  rw [Lib.decDigits]
  by_cases h : u < 10
  · rw [dif_pos h, dig_one u h, if_pos (by omega)]
    simp only [List.nil_append, List.cons.injEq, and_true]
    omega
  · rw [dif_neg h, nu_app, dig_one (u % 10) (by omega), if_neg (by omega)]
    simp
theorem dpre_step (u : Nat) (h : u ≠ 0) : dpre u = dpre (u / 10) ++ [48 + (u : Int) % 10] := by
  rw [← ddig_step]; unfold dpre ddig; rw [if_neg h]
theorem ddig_len : ∀ (k u : Nat), u < 10 ^ (k + 1) → (ddig u).length ≤ k + 1
  | 0, u, h => by
    rw [ddig_step]; unfold dpre; rw [if_pos (by omega)]; simp
  | k + 1, u, h => by
    rw [ddig_step]
    have : (dpre (u / 10)).length ≤ k + 1 := by
      unfold dpre
      split
      · simp
      · exact ddig_len k (u / 10) (by rw [Nat.pow_succ] at h; omega)
    simp; omega
/-- a number in decimal, as bytes -/
def decN (n : Int) : List Int := if n < 0 then 45 :: ddig n.natAbs else ddig n.natAbs
theorem decN_itoa (n : Int) : decN n = nu (Lib.itoa n) := by
  unfold decN Lib.itoa ddig
  split
  · rfl
  · rw [show n.natAbs = n.toNat by omega]
theorem ddig_ne (u : Nat) : ddig u ≠ [] := by rw [ddig_step]; simp
end Go.Proofs.YtncjkhdnpioinaaDoor

/- Numbers in decimal: the specification. -/
namespace Go.Proofs.YtncjkhdnpioinaaDoor
open Go.RowKit
set_option linter.unusedVariables false

def decZ (n : Int) : ByteArray := strOfNums (decN n)
theorem OwnU.lit1 (w : World) (base : Nat) (hb : base ≤ w.heap.size) (a : Int) : OwnU (w.alloc (.cells #[.int .u8 a] 5)) base (.slice (some ⟨w.heap.size, 0, none⟩) 1 1) [a] :=
  World.ownsRow_lit (w := w) (base := base) (e := 5) (size := 1) #[.int .u8 a] 1 hb (by decide) rfl

/-- what a loop over the digits has made: either nothing yet, or the digits behind what is left -/
def DRel (N u : Nat) (zs : List Int) : Prop := (zs = [] ∧ u = N) ∨ (1 ≤ zs.length ∧ ddig N = dpre u ++ zs)
theorem DRel.step {N u : Nat} {zs : List Int} (h : DRel N u zs) (hu : zs = [] ∨ u ≠ 0) : DRel N (u / 10) ((48 + (u : Int) % 10) :: zs) := by
  refine .inr ⟨by simp, ?_⟩
  rcases h with ⟨rfl, rfl⟩ | ⟨h1, h2⟩
  · exact ddig_step u
  · rcases hu with rfl | hu
    · simp at h1
    · rw [h2, dpre_step u hu]; simp
theorem DRel.len {N u : Nat} {zs : List Int} (h : DRel N u zs) (hN : N < 10 ^ 20) : zs.length ≤ 20 := by
  rcases h with ⟨rfl, _⟩ | ⟨_, h2⟩
  · simp
  · have := ddig_len 19 N (by omega)
    rw [h2] at this
    simp at this; omega
theorem DRel.done {N : Nat} {zs : List Int} (h : DRel N 0 zs) (h1 : zs ≠ []) : zs = ddig N := by
  rcases h with ⟨rfl, _⟩ | ⟨_, h2⟩
  · exact absurd rfl h1
  · rw [h2]; rfl
def DSl (base : Nat) (v : Value) (zs : List Int) (w : World) : Prop := (∃ g cap, v = .slice (some ⟨g, 0, none⟩) zs.length cap) ∧ OwnU w base v zs
theorem DSl.cell {base g n cap : Nat} {zs : List Int} {w : World} (h : OwnU w base (.slice (some ⟨g, 0, none⟩) n cap) zs) (o : Obj) (i : Nat) (hi : i < zs.length) : (w.alloc o).cell? ⟨g, 0 + i, none⟩ = some (.int .u8 (zs.getD i 0)) := by
  rw [Nat.zero_add]; exact (h.al o).cellAt i hi

set_option maxHeartbeats 1600000 in
set_option maxRecDepth 4000 in
theorem specDecP_any (N : Nat) (w : World) (hN : N ≤ 9223372036854775807) : Calls Tryd.prog 142 #[.int .i64 N] w fun e w' => e = .returned (.string (strOfNums (ddig N))) ∧ Below w.heap.size w w' := by
  have HN := Lib.hid (show N < 10 ^ 20 by omega)
  have HN2 := Lib.hid hN
  have Bw := Lib.hid (below_al1 w (.cells #[] 5))
  have O0 := Lib.hid (OwnU.empty w w.heap.size (Nat.le_refl _))
  have hz : decide ((N : Int) < 0) = false := by simp
  clear hN
  go_enter Tryd.func142, Tryd.ntmps142
  go_wp2
  go_loopw [3, 4] (fun v r wr => ∃ (u : Nat) (zs : List Int), u ≤ N ∧ r = .int .i64 u ∧ Hid (DRel N u zs) ∧ Hid (DSl w.heap.size v zs wr) ∧ Hid (Below w.heap.size w wr)) (fun v r _ => (intOf r).toNat + (match v with | .slice _ 0 _ => 1 | _ => 0))
  case atStart => exact ⟨N, [], Nat.le_refl _, rfl, Lib.hid (.inl ⟨rfl, rfl⟩), Lib.hid ⟨⟨_, _, rfl⟩, O0.out⟩, Bw⟩
  case round =>
    obtain ⟨u, zs, hu, rfl, hd, hs, hb⟩ := hrel
    obtain ⟨g, cap, rfl⟩ := hs.out.1
    have HO := Lib.hid hs.out.2
    clear hs
    have e1 : IntKind.i64.wrap (48 + (u : Int) % 10) = 48 + (u : Int) % 10 := by
      unfold IntKind.wrap; simp [IntKind.bits, IntKind.signed]; omega
    have e2 : IntKind.u8.wrap (48 + (u : Int) % 10) = 48 + (u : Int) % 10 := by
      unfold IntKind.wrap; simp [IntKind.bits, IntKind.signed]; omega
    have e3 : decide ((u : Int) % 10 < 0) = false := by
      have : 0 ≤ (u : Int) % 10 := Int.emod_nonneg _ (by decide)
      simpa using this
    have e4 : wrap64 ((u : Int) / 10) = ((u / 10 : Nat) : Int) := by
      have := HN2.out; unfold wrap64; omega
    by_cases hz0 : zs = []
    · subst hz0
      have HS := Lib.hid (hd.out.step (.inl rfl))
      have OL := Lib.hid (OwnU.lit1 wr w.heap.size (hb.out.size) (48 + (u : Int) % 10))
      have B2 := Lib.hid (hb.out.alloc (hb.out.size) (.cells #[.int .u8 (48 + (u : Int) % 10)] 5))
      have hq : Hid (u / 10 ≤ N) := Lib.hid (by omega)
      have hm : Hid (u / 10 ≤ u) := Lib.hid (by omega)
      clear hd
      go_wp2
      refine ⟨⟨u / 10, _, hq.out, by rw [e4], HS, Lib.hid ⟨⟨_, _, rfl⟩, OL.out⟩, B2⟩, ?_⟩
      have := hm.out
      rw [e4]
      simp [intOf]
      omega
    by_cases hu0 : u = 0
    · subst hu0
      have HE := Lib.hid (hd.out.done hz0)
      have hl := hd.out.len HN.out
      have hcv := run_convert_bytes_arg (P := Tryd.prog) wr 141 5 Tryd.underlying141 Tryd.underlying5 g 0 zs.length cap zs rfl (fun i hi => by rw [Nat.zero_add]; exact HO.out.cellAt i hi) 9 Tryd.underlying9
      clear e1 e2 e3 e4
      have zl : ¬ ((zs.length : Int) = 0) := by
        intro e
        exact hz0 (List.length_eq_zero_iff.1 (by omega))
      have zb : ((zs.length : Int) == 0) = false := by simpa using zl
      go_wp2
      go_ret
      exact ⟨congrArg (fun x => Ending.returned (Value.string (strOfNums x))) HE.out, hb.out⟩
    · have hl := hd.out.len HN.out
      have ub : ((u : Int) == 0) = false := by simp; omega
      have ub2 : ((u : Int) != 0) = true := by simp; omega
      have HS := Lib.hid (hd.out.step (.inr hu0))
      have OL := Lib.hid (OwnU.lit1 wr w.heap.size (hb.out.size) (48 + (u : Int) % 10))
      have B2 := Lib.hid (hb.out.alloc (hb.out.size) (.cells #[.int .u8 (48 + (u : Int) % 10)] 5))
      have CS := Lib.hid (fun i hi => DSl.cell HO.out (.cells #[.int .u8 (48 + (u : Int) % 10)] 5) i hi)
      have hq : Hid (u / 10 ≤ N) := Lib.hid (by omega)
      have hm : Hid (u / 10 < u) := Lib.hid (by omega)
      clear hd
      go_wp2_with (at_builtin; refine wpList_catU rfl _ _ rfl w.heap.size _ [48 + (u : Int) % 10] zs rfl OL.out g 0 cap rfl CS.out (by simp) (by omega) (B2.out.size) ?_; intro v' w' hO' hB'; obtain ⟨g2, cap2, rfl⟩ := hO'.openS (by simp))
      have B3 := Lib.hid (B2.out.trans hB')
      have O3 := Lib.hid hO'
      clear hO' hB'
      go_wp2
      refine ⟨⟨u / 10, _, hq.out, by rw [e4], HS, Lib.hid ⟨⟨_, _, rfl⟩, O3.out⟩, B3⟩, ?_⟩
      have := hm.out
      rw [e4]
      simp [intOf]
      omega


set_option maxHeartbeats 3200000 in
set_option maxRecDepth 4000 in
theorem specDecM_any (N : Nat) (w : World) (h1 : 1 ≤ N) (hN : N ≤ 9223372036854775808) : Calls Tryd.prog 142 #[.int .i64 (-(N : Int))] w fun e w' => e = .returned (.string (strOfNums (45 :: ddig N))) ∧ Below w.heap.size w w' := by
  have HN := Lib.hid (show N < 10 ^ 20 by omega)
  have HN2 := Lib.hid hN
  have Bw := Lib.hid (below_al1 w (.cells #[] 5))
  have O0 := Lib.hid (OwnU.empty w w.heap.size (Nat.le_refl _))
  have hz : decide (-(N : Int) < 0) = true := by simp; omega
  clear hN
  go_enter Tryd.func142, Tryd.ntmps142
  go_wp2
  go_loopw [3, 4] (fun v r wr => ∃ (u : Nat) (zs : List Int), u ≤ N ∧ r = .int .i64 (-(u : Int)) ∧ Hid (DRel N u zs) ∧ Hid (DSl w.heap.size v zs wr) ∧ Hid (Below w.heap.size w wr)) (fun v r _ => (-intOf r).toNat + (match v with | .slice _ 0 _ => 1 | _ => 0))
  case atStart => exact ⟨N, [], Nat.le_refl _, rfl, Lib.hid (.inl ⟨rfl, rfl⟩), Lib.hid ⟨⟨_, _, rfl⟩, O0.out⟩, Bw⟩
  case round =>
    obtain ⟨u, zs, hu, rfl, hd, hs, hb⟩ := hrel
    obtain ⟨g, cap, rfl⟩ := hs.out.1
    have HO := Lib.hid hs.out.2
    clear hs
    have e6 : (-(u : Int)).tdiv 10 = -((u : Int) / 10) := by rw [Int.neg_tdiv, Int.tdiv_eq_ediv_of_nonneg (by omega)]
    have e4 : wrap64 (-((u : Int) / 10)) = -((u / 10 : Nat) : Int) := by
      have := HN2.out; unfold wrap64; omega
    have e5 : (-(u : Int)).tmod 10 = -((u : Int) % 10) := by rw [Int.neg_tmod, Int.tmod_eq_emod_of_nonneg (by omega)]
    have hl := hd.out.len HN.out
    have hq : Hid (u / 10 ≤ N) := Lib.hid (by omega)
    have hm : Hid (u / 10 ≤ u ∧ (u ≠ 0 → u / 10 < u)) := Lib.hid (by omega)
    obtain ⟨q, hqe⟩ : ∃ q : Int, (u : Int) % 10 = q := ⟨_, rfl⟩
    have q0 : 0 ≤ q := by omega
    have q9 : q ≤ 9 := by omega
    have ST := Lib.hid (fun h => hd.out.step h)
    rw [hqe] at e5 ST
    clear hqe
    by_cases hz0 : zs = []
    · subst hz0
      by_cases hq1 : q = 0
      · subst hq1
        have e7 : (-(u : Int)).tmod 10 = 0 := e5
        clear e5
        have HS : Hid (DRel N (u / 10) [48]) := Lib.hid (by simpa using ST.out (.inl rfl))
        have OL := Lib.hid (OwnU.lit1 wr w.heap.size (hb.out.size) 48)
        have B2 := Lib.hid (hb.out.alloc (hb.out.size) (.cells #[.int .u8 48] 5))
        clear hd ST
        go_wp2
        refine ⟨⟨u / 10, _, hq.out, by rw [e4], HS, Lib.hid ⟨⟨_, _, rfl⟩, OL.out⟩, B2⟩, ?_⟩
        have := hm.out
        rw [e4]
        simp [intOf]
        omega
      · skip
        have e3 : decide (-q < 0) = true := by simp; omega
        have e1 : IntKind.i64.wrap (48 + q) = 48 + q := by unfold IntKind.wrap; simp [IntKind.bits, IntKind.signed]; omega
        have e2 : IntKind.u8.wrap (48 + q) = 48 + q := by unfold IntKind.wrap; simp [IntKind.bits, IntKind.signed]; omega
        have e8 : IntKind.i64.wrap q = q := by unfold IntKind.wrap; simp [IntKind.bits, IntKind.signed]; omega
        have HS : Hid (DRel N (u / 10) ((48 + q) :: [])) := Lib.hid (ST.out (.inl rfl))
        have OL := Lib.hid (OwnU.lit1 wr w.heap.size (hb.out.size) (48 + q))
        have B2 := Lib.hid (hb.out.alloc (hb.out.size) (.cells #[.int .u8 (48 + q)] 5))
        clear hd ST
        go_wp2
        refine ⟨⟨u / 10, _, hq.out, by rw [e4], HS, Lib.hid ⟨⟨_, _, rfl⟩, OL.out⟩, B2⟩, ?_⟩
        have := hm.out
        rw [e4]
        simp [intOf]
        omega
    by_cases hu0 : u = 0
    · subst hu0
      have HE := Lib.hid (hd.out.done hz0)
      have zl : ¬ ((zs.length : Int) = 0) := by
        intro e
        exact hz0 (List.length_eq_zero_iff.1 (by omega))
      have zb : ((zs.length : Int) == 0) = false := by simpa using zl
      have OL := Lib.hid (OwnU.lit1 wr w.heap.size (hb.out.size) 45)
      have B2 := Lib.hid (hb.out.alloc (hb.out.size) (.cells #[.int .u8 45] 5))
      have CS := Lib.hid (fun i hi => DSl.cell HO.out (.cells #[.int .u8 45] 5) i hi)
      have zq : (-((0 : Nat) : Int)) = 0 := rfl
      obtain ⟨T, hT⟩ : ∃ T, [45] ++ zs = T := ⟨_, rfl⟩
      have HL := Lib.hid (show 1 ≤ T.length by rw [← hT]; simp)
      have HE2 : Hid (T = 45 :: ddig N) := Lib.hid (by rw [← hT, HE.out]; rfl)
      have HT := Lib.hid hT
      clear e4 e5 e6 hT
      rw [zq]
      go_wp2_with (at_builtin; refine wpList_catU rfl _ _ rfl w.heap.size _ [45] zs rfl OL.out g 0 cap rfl CS.out (by simp) (by omega) (B2.out.size) ?_; intro v' w' hO' hB'; rw [HT.out] at hO'; obtain ⟨g2, cap2, rfl⟩ := hO'.openS HL.out; refine Hid.out ?_)
      refine Lib.hid ?_
      have B3 := Lib.hid (B2.out.trans hB')
      have hcv := run_convert_bytes_arg (P := Tryd.prog) w' 141 5 Tryd.underlying141 Tryd.underlying5 g2 0 T.length cap2 T rfl (fun i hi => by rw [Nat.zero_add]; exact hO'.cellAt i hi) 9 Tryd.underlying9
      clear hB' hO'
      go_wp2
      go_ret
      exact ⟨congrArg (fun x => Ending.returned (Value.string (strOfNums x))) HE2.out, B3.out⟩
    · skip
      have zl : ¬ ((zs.length : Int) = 0) := by
        intro e
        exact hz0 (List.length_eq_zero_iff.1 (by omega))
      have zb : ((zs.length : Int) == 0) = false := by simpa using zl
      have ub : ((-(u : Int)) == 0) = false := by simp; omega
      have ub2 : ((-(u : Int)) != 0) = true := by simp; omega
      clear zl
      by_cases hq1 : q = 0
      · subst hq1
        have e7 : (-(u : Int)).tmod 10 = 0 := e5
        clear e5
        have HS : Hid (DRel N (u / 10) (48 :: zs)) := Lib.hid (by simpa using ST.out (.inr hu0))
        have OL := Lib.hid (OwnU.lit1 wr w.heap.size (hb.out.size) 48)
        have B2 := Lib.hid (hb.out.alloc (hb.out.size) (.cells #[.int .u8 48] 5))
        have CS := Lib.hid (fun i hi => DSl.cell HO.out (.cells #[.int .u8 48] 5) i hi)
        clear hd ST
        go_wp2_with (at_builtin; refine wpList_catU rfl _ _ rfl w.heap.size _ [48] zs rfl OL.out g 0 cap rfl CS.out (by simp) (by omega) (B2.out.size) ?_; intro v' w' hO' hB'; obtain ⟨g2, cap2, rfl⟩ := hO'.openS (by simp))
        have B3 := Lib.hid (B2.out.trans hB')
        have O3 := Lib.hid hO'
        clear hO' hB'
        go_wp2
        refine ⟨⟨u / 10, _, hq.out, by rw [e4], HS, Lib.hid ⟨⟨_, _, rfl⟩, O3.out⟩, B3⟩, ?_⟩
        have := hm.out
        rw [e4]
        simp [intOf]
        omega
      · skip
        have e3 : decide (-q < 0) = true := by simp; omega
        have e1 : IntKind.i64.wrap (48 + q) = 48 + q := by unfold IntKind.wrap; simp [IntKind.bits, IntKind.signed]; omega
        have e2 : IntKind.u8.wrap (48 + q) = 48 + q := by unfold IntKind.wrap; simp [IntKind.bits, IntKind.signed]; omega
        have e8 : IntKind.i64.wrap q = q := by unfold IntKind.wrap; simp [IntKind.bits, IntKind.signed]; omega
        have HS : Hid (DRel N (u / 10) ((48 + q) :: zs)) := Lib.hid (ST.out (.inr hu0))
        have OL := Lib.hid (OwnU.lit1 wr w.heap.size (hb.out.size) (48 + q))
        have B2 := Lib.hid (hb.out.alloc (hb.out.size) (.cells #[.int .u8 (48 + q)] 5))
        have CS := Lib.hid (fun i hi => DSl.cell HO.out (.cells #[.int .u8 (48 + q)] 5) i hi)
        clear hd ST
        go_wp2_with (at_builtin; refine wpList_catU rfl _ _ rfl w.heap.size _ [(48 + q)] zs rfl OL.out g 0 cap rfl CS.out (by simp) (by omega) (B2.out.size) ?_; intro v' w' hO' hB'; obtain ⟨g2, cap2, rfl⟩ := hO'.openS (by simp))
        have B3 := Lib.hid (B2.out.trans hB')
        have O3 := Lib.hid hO'
        clear hO' hB'
        go_wp2
        refine ⟨⟨u / 10, _, hq.out, by rw [e4], HS, Lib.hid ⟨⟨_, _, rfl⟩, O3.out⟩, B3⟩, ?_⟩
        have := hm.out
        rw [e4]
        simp [intOf]
        omega
end Go.Proofs.YtncjkhdnpioinaaDoor

/- Numbers in decimal: both sides make the same text. -/
namespace Go.Proofs.YtncjkhdnpioinaaDoor
open Go.RowKit
set_option linter.unusedVariables false

theorem decZ_itoa (n : Int) : decZ n = ⟨(Lib.itoa n).toArray⟩ := by
  unfold decZ
  rw [decN_itoa]
  unfold strOfNums nu
  rw [List.map_map]
  have : ((fun n : Int => UInt8.ofNat n.toNat) ∘ fun b : UInt8 => (b.toNat : Int)) = id := by funext b; simp
  rw [this]; simp
theorem specDec_any (n : Int) (w : World) (h0 : -9223372036854775808 ≤ n) (h1 : n ≤ 9223372036854775807) : Calls Tryd.prog 142 #[.int .i64 n] w fun e w' => e = .returned (.string (decZ n)) ∧ Below w.heap.size w w' := by
  unfold decZ decN
  by_cases h : n < 0
  · rw [if_pos h]
    have := specDecM_any n.natAbs w (by omega) (by omega)
    rwa [show -((n.natAbs : Nat) : Int) = n by omega] at this
  · rw [if_neg h]
    have := specDecP_any n.natAbs w (by omega)
    rwa [show ((n.natAbs : Nat) : Int) = n by omega] at this
theorem below_grow {w : World} (k : Nat) (os : Array Obj) : Below w.heap.size w (Sort.grow (w.drewN k) os) := by
  refine ⟨rfl, rfl, rfl, ?_, fun b hb => ?_⟩
  · show w.heap.size ≤ (w.heap ++ os).size
    simp
  · show (w.heap ++ os)[b]? = w.heap[b]?
    rw [Array.getElem?_append_left hb]
theorem implDec_any (n : Int) (w : World) (h0 : -9223372036854775808 ≤ n) (h1 : n ≤ 9223372036854775807) (ht : Tabs w) : Calls Tryd.prog 126 #[.int .i64 n] w fun e w' => e = .returned (.string (decZ n)) ∧ Below w.heap.size w w' := by
  have HC := Lib.hid (Tryd.strconv_FormatInt_10 n h0 h1 w ht.p10)
  have HZ := Lib.hid (decZ_itoa n)
  clear h0 h1 ht
  go_enter Tryd.func126, Tryd.ntmps126
  go_wp2_with fail
  refine HC.out.mono ?_
  rw [← HZ.out]
  rintro e w1 ⟨rfl, k, os, hw⟩
  have B := Lib.hid (show Below w.heap.size w w1 by rw [hw]; exact below_grow k os)
  clear hw
  go_wp2
  go_ret
  exact ⟨rfl, B.out⟩
end Go.Proofs.YtncjkhdnpioinaaDoor

/- What the listed tables and errors of Go's library hold. -/
namespace Go.Proofs.YtncjkhdnpioinaaDoor
open Go.RowKit
set_option linter.unusedVariables false
theorem var_below {P : Program} {w w' : World} {n : String} {cs : Array Value} (h : w.var? P n = some cs) (hb : Below w.heap.size w w') : w'.var? P n = some cs := by
  unfold World.var? at h ⊢
  cases hg : P.globalNamed n with
  | none => simp [hg] at h
  | some g =>
    simp only [hg, Option.bind_some] at h ⊢
    have hlt : g < w.heap.size := by
      rcases Nat.lt_or_ge g w.heap.size with h' | h'
      · exact h'
      · simp [Array.getElem?_eq_none h'] at h
    obtain ⟨_, _, _, _, hk⟩ := hb
    rw [hk g hlt]
    exact h
/-- the tables and the two errors that are read -/
structure TabsE (w : World) : Prop where
  t : Tabs w
  eR : ∃ tp p, w.var? Tryd.prog "strconv.ErrRange" = some #[.iface tp p]
  eS : ∃ tp p, w.var? Tryd.prog "strconv.ErrSyntax" = some #[.iface tp p]
theorem TabsE.below {w w' : World} (h : TabsE w) (hb : Below w.heap.size w w') : TabsE w' :=
  ⟨h.t.below hb, h.eR.imp fun _ h => h.imp fun _ h => var_below h hb, h.eS.imp fun _ h => h.imp fun _ h => var_below h hb⟩
theorem ptrErr : "*" ++ "errors.errorString" = "*errors.errorString" := by decide
theorem rowErr (u : TypeId) (h : Tryd.prog.typeName? 3 u = some "*errors.errorString") : u = 253 :=
  typeName_ptr_named (nm := "errors.errorString") (by rw [ptrErr]; kernel_rfl) (by kernel_rfl) (by decide) u (by rw [ptrErr]; exact h)
theorem tabsE {w : World} (h : laidMetH Tryd.prog [("math/bits.deBruijn32tab", Rows.laid_math_bits_deBruijn32tab), ("math/bits.deBruijn64tab", Rows.laid_math_bits_deBruijn64tab), ("internal/strconv.uint64pow10", Rows.laid_internal_strconv_uint64pow10), ("strconv.ErrRange", Rows.laid_strconv_ErrRange), ("strconv.ErrSyntax", Rows.laid_strconv_ErrSyntax)] w) : TabsE w := by
  rw [MakeChecks.laidMetH_plain _ _ _ (by kernel_rfl)] at h
  have h2 := h.tail
  have h3 := h2.tail
  have h4 := h3.tail
  have h5 := h4.tail
  refine ⟨⟨Lib.tabIs_of_head (zs := Lib.pow10Tab) (g := 6) (t := 257) (e := 225) (n := 20) (by kernel_rfl) (by kernel_rfl) (by kernel_rfl) (by kernel_rfl) (by kernel_rfl) (by kernel_rfl) h3,
    Lib.tabIs_of_head (zs := dbr64) (g := 8) (t := 265) (e := 5) (n := 64) (by kernel_rfl) (by kernel_rfl) (by kernel_rfl) (by kernel_rfl) (by kernel_rfl) (by kernel_rfl) h2⟩, ?_, ?_⟩
  · obtain ⟨a, s, hv, -, -, -⟩ := laid_sentinel h4 (g := 5) (by kernel_rfl) (by kernel_rfl) Tryd.underlying73 rowErr Tryd.underlying253 Tryd.underlying255 rfl rfl Tryd.underlying9 (by kernel_rfl) (by kernel_rfl)
    exact ⟨_, _, hv⟩
  · obtain ⟨a, s, hv, -, -, -⟩ := laid_sentinel h5 (g := 4) (by kernel_rfl) (by kernel_rfl) Tryd.underlying73 rowErr Tryd.underlying253 Tryd.underlying255 rfl rfl Tryd.underlying9 (by kernel_rfl) (by kernel_rfl)
    exact ⟨_, _, hv⟩
end Go.Proofs.YtncjkhdnpioinaaDoor

/- Numbers read in decimal. No program stands in this text. -/
namespace Go.Proofs.YtncjkhdnpioinaaDoor
open Go

def vstep (n : Nat) (b : UInt8) : Nat := if 48 ≤ b.toNat ∧ b.toNat ≤ 57 then 10 * n + (b.toNat - 48) else n
/-- the number that the digits among the bytes make -/
def vof (l : List UInt8) : Nat := l.foldl vstep 0
theorem vstep_lt {n k : Nat} (b : UInt8) (h : n < 10 ^ k) : vstep n b < 10 ^ (k + 1) := by
  unfold vstep
  rw [Nat.pow_succ]
  split <;> omega
theorem vof_take_succ (l : List UInt8) (k : Nat) (b : UInt8) (h : l[k]? = some b) : vof (l.take (k + 1)) = vstep (vof (l.take k)) b := by
  unfold vof
  rw [List.take_add_one, h, List.foldl_append]; rfl
theorem vof_take_lt (l : List UInt8) : ∀ k : Nat, vof (l.take k) < 10 ^ k
  | 0 => by simp [vof]
  | k + 1 => by
    cases h : l[k]? with
    | none =>
      have := vof_take_lt l k
      have hl : l.length ≤ k := List.getElem?_eq_none_iff.1 h
      rw [List.take_of_length_le hl] at this
      rw [List.take_of_length_le (by omega), Nat.pow_succ]; omega
    | some b => rw [vof_take_succ l k b h]; exact vstep_lt b (vof_take_lt l k)
theorem dig_nat {d : Nat} (h : d < 10) : (UInt8.ofNat (48 + d)).toNat = 48 + d := by rw [UInt8.toNat_ofNat']; omega
theorem vof_digits (u : Nat) : vof (Lib.decDigits u) = u := by
  induction u using Nat.strongRecOn with
  | _ u ih =>
    by_cases h : u < 10
    · rw [Lib.decDigits, dif_pos h]
      unfold vof vstep
      simp only [List.foldl_cons, List.foldl_nil, dig_nat h]
      rw [if_pos (by omega)]; omega
    · rw [Lib.decDigits, dif_neg h]
      have e := ih (u / 10) (by omega)
      unfold vof at e ⊢
      rw [List.foldl_append, e]
      unfold vstep
      simp only [List.foldl_cons, List.foldl_nil, dig_nat (show u % 10 < 10 by omega)]
      rw [if_pos (by omega)]; omega
theorem decFrom_app (a b : List UInt8) : ∀ acc : Nat, Lib.decFrom acc (a ++ b) = (Lib.decFrom acc a).bind fun n => Lib.decFrom n b := by
  induction a with
  | nil => intro acc; rfl
  | cons c r ih =>
    intro acc
    simp only [List.cons_append, Lib.decFrom]
    cases Lib.digitVal c with
    | none => rfl
    | some d => exact ih _
theorem digitVal_dig {d : Nat} (h : d < 10) : Lib.digitVal (UInt8.ofNat (48 + d)) = some d := by
  unfold Lib.digitVal
  rw [dig_nat h, if_pos (by omega)]
  congr 1
  omega
theorem decFrom_digits (u : Nat) : Lib.decFrom 0 (Lib.decDigits u) = some u := by
  induction u using Nat.strongRecOn with
  | _ u ih =>
    by_cases h : u < 10
    · rw [Lib.decDigits, dif_pos h]
      simp only [Lib.decFrom, digitVal_dig h]
      simp
    · rw [Lib.decDigits, dif_neg h, decFrom_app, ih (u / 10) (by omega)]
      simp only [Option.bind_some, Lib.decFrom, digitVal_dig (show u % 10 < 10 by omega)]
      congr 1
      omega
theorem digits_head (u : Nat) : ∃ b r, Lib.decDigits u = b :: r ∧ 48 ≤ b.toNat ∧ b.toNat ≤ 57 := by
  induction u using Nat.strongRecOn with
  | _ u ih =>
    by_cases h : u < 10
    · rw [Lib.decDigits, dif_pos h]
      exact ⟨_, _, rfl, by rw [dig_nat h]; omega, by rw [dig_nat h]; omega⟩
    · rw [Lib.decDigits, dif_neg h]
      obtain ⟨b, r, e, h1, h2⟩ := ih (u / 10) (by omega)
      exact ⟨b, r ++ [UInt8.ofNat (48 + u % 10)], by rw [e]; rfl, h1, h2⟩
theorem decNat_digits (u : Nat) : Lib.decNat (Lib.decDigits u) = some u := by
  obtain ⟨b, r, e, _, _⟩ := digits_head u
  unfold Lib.decNat
  rw [if_neg (by rw [e]; simp), decFrom_digits]
/-- the value of what is written -/
def sval (l : List UInt8) : Int := if l.head? = some 45 then -(vof l : Int) else (vof l : Int)
theorem sval_itoa (n : Int) : sval (Lib.itoa n) = n := by
  unfold Lib.itoa
  by_cases h : n < 0
  · rw [if_pos h]
    have : vof (45 :: Lib.decDigits n.natAbs) = vof (Lib.decDigits n.natAbs) := by
      show List.foldl vstep (vstep 0 45) _ = _
      rfl
    unfold sval
    rw [this, vof_digits]
    simp only [List.head?_cons, if_true]; omega
  · rw [if_neg h]
    obtain ⟨b, r, e, h1, h2⟩ := digits_head n.toNat
    unfold sval
    rw [vof_digits, if_neg ?_]
    · omega
    · rw [e]
      simp only [List.head?_cons, Option.some.injEq]
      rintro rfl
      exact absurd h1 (by decide)
theorem atoi_itoa (n : Int) : Lib.atoi (Lib.itoa n) = some n := by
  unfold Lib.itoa
  by_cases h : n < 0
  · rw [if_pos h]
    have e : Lib.atoi (45 :: Lib.decDigits n.natAbs) = (Lib.decNat (Lib.decDigits n.natAbs)).map fun (m : Nat) => -(m : Int) := rfl
    rw [e, decNat_digits]
    simp only [Option.map_some, Option.some.injEq]
    omega
  · rw [if_neg h]
    obtain ⟨b, r, e, h1, h2⟩ := digits_head n.toNat
    have e2 := decNat_digits n.toNat
    rw [e] at e2 ⊢
    have n45 : (b == 45) = false := by
      rw [beq_eq_false_iff_ne]; rintro rfl; exact absurd h1 (by decide)
    have n43 : (b == 43) = false := by
      rw [beq_eq_false_iff_ne]; rintro rfl; exact absurd h1 (by decide)
    unfold Lib.atoi
    simp only [n45, n43, Bool.false_eq_true, if_false]
    rw [e2]
    simp only [Option.map_some, Option.some.injEq]
    omega
theorem nDigits_lt : ∀ (k u : Nat), u < 10 ^ (k + 1) → Lib.nDigits u ≤ k + 1
  | 0, u, h => by rw [Lib.nDigits_small (by omega)]; omega
  | k + 1, u, h => by
    by_cases h1 : u < 10
    · rw [Lib.nDigits_small h1]; omega
    · rw [Lib.nDigits_big h1]
      have := nDigits_lt k (u / 10) (by rw [Nat.pow_succ] at h; omega)
      omega
theorem itoa_len {n : Int} (h0 : -1000000000000000 ≤ n) (h1 : n ≤ 1000000000000000) : 1 ≤ (Lib.itoa n).length ∧ (Lib.itoa n).length ≤ 17 := by
  unfold Lib.itoa
  have hp (u : Nat) (h : u ≤ 1000000000000000) : 1 ≤ (Lib.decDigits u).length ∧ (Lib.decDigits u).length ≤ 16 := by
    rw [Lib.decDigits_length]
    exact ⟨Lib.nDigits_pos u, nDigits_lt 15 u (by omega)⟩
  split
  · have := hp n.natAbs (by omega)
    simp only [List.length_cons]; omega
  · have := hp n.toNat (by omega)
    omega
theorem parse_itoa {n : Int} (h0 : -1000000000000000 ≤ n) (h1 : n ≤ 1000000000000000) : Lib.parseIntB 64 (Lib.itoa n) = .ok n := by
  rw [Lib.parseIntB_64, Lib.atoiAll_short _ (by have := (itoa_len h0 h1).2; omega), atoi_itoa]; rfl
end Go.Proofs.YtncjkhdnpioinaaDoor

/- Numbers read in decimal: both sides. -/
namespace Go.Proofs.YtncjkhdnpioinaaDoor
open Go.RowKit
set_option linter.unusedVariables false

/-- the number with a text, and whether there is one -/
def rdOk (s : ByteArray) : Bool := decide (1 ≤ s.size ∧ s.size ≤ 17 ∧ -1000000000000000 ≤ sval s.data.toList ∧ sval s.data.toList ≤ 1000000000000000 ∧ decZ (sval s.data.toList) = s)
def rdV (s : ByteArray) : Int := if rdOk s then sval s.data.toList else 0
theorem rdOk_of {s : ByteArray} {n : Int} (h0 : -1000000000000000 ≤ n) (h1 : n ≤ 1000000000000000) (h : decZ n = s) : rdOk s = true ∧ sval s.data.toList = n := by
  have e : s.data.toList = Lib.itoa n := by rw [← h, decZ_itoa]
  have es : s.size = (Lib.itoa n).length := by rw [← e]; exact Array.length_toList.symm
  have hl := itoa_len h0 h1
  have hv : sval s.data.toList = n := by rw [e, sval_itoa]
  exact ⟨decide_eq_true ⟨by omega, by omega, by rw [hv]; exact h0, by rw [hv]; exact h1, by rw [hv]; exact h⟩, hv⟩
theorem rd_parse {s : ByteArray} (h : rdOk s = true) : Lib.parseIntB 64 s.data.toList = .ok (sval s.data.toList) ∧ -1000000000000000 ≤ sval s.data.toList ∧ sval s.data.toList ≤ 1000000000000000 ∧ decZ (sval s.data.toList) = s := by
  obtain ⟨_, _, h0, h1, h2⟩ := of_decide_eq_true h
  have e : s.data.toList = Lib.itoa (sval s.data.toList) := by
    have := congrArg (fun z : ByteArray => z.data.toList) h2
    simp only [decZ_itoa] at this
    exact this.symm
  refine ⟨?_, h0, h1, h2⟩
  have := parse_itoa h0 h1
  rwa [← e] at this
theorem implIsValue_any (n : Int) (w : World) : Calls Tryd.prog 125 #[.int .i64 n] w fun e w' => e = .returned (.bool (decide (-1000000000000000 ≤ n) && decide (n ≤ 1000000000000000))) ∧ w' = w := by
  by_cases h : -1000000000000000 ≤ n
  · have hd : decide (-1000000000000000 ≤ n) = true := decide_eq_true h
    rw [hd]
    go_enter Tryd.func125, Tryd.ntmps125
    go_wp2
    go_ret
    exact ⟨rfl, rfl⟩
  · have hd : decide (-1000000000000000 ≤ n) = false := decide_eq_false h
    rw [hd]
    go_enter Tryd.func125, Tryd.ntmps125
    go_wp2
    go_ret
    exact ⟨rfl, rfl⟩
theorem zne {a b : ByteArray} (h : ¬ a = b) : (a.toList == b.toList) = false := by
  rw [beq_eq_false_iff_ne]
  intro e
  rw [ByteArray.toList_eq, ByteArray.toList_eq] at e
  exact h (ByteArray.ext (Array.ext' e))
theorem numEnd3 (e : Lib.NumEnd Int) : e = Lib.NumEnd.ofOption none ∨ e = .range ∨ ∃ v, e = .ok v := by
  cases e <;> first | exact .inl rfl | exact .inr (.inl rfl) | exact .inr (.inr ⟨_, rfl⟩)
/-- what the reading has made -/
def RdB (s : ByteArray) (w : World) (e : Ending) (w' : World) : Prop := e = .returned (.tuple #[.int .i64 (rdV s), .bool (rdOk s)]) ∧ Below w.heap.size w w'
theorem implRd_any (s : ByteArray) (w : World) (hs : s.size ≤ 1048576) (ht : TabsE w) : Calls Tryd.prog 72 #[.string s] w (RdB s w) := by
  obtain ⟨tR, pR, hR⟩ := ht.eR
  obtain ⟨tS, pS, hS⟩ := ht.eS
  rcases numEnd3 (Lib.parseIntB 64 s.data.toList) with hp | hp | ⟨v, hp⟩
  ·
    have HC := Lib.hid (Tryd.strconv_ParseInt_10_at64_syntax_var s (by omega) hp tS pS w hS)
    have hr : rdOk s = false := by
      cases h : rdOk s with
      | false => rfl
      | true => rw [(rd_parse h).1] at hp; exact absurd hp (by unfold Lib.NumEnd.ofOption; exact fun h => by cases h)
    have HR := Lib.hid (show RdB s w = fun e w' => e = .returned (.tuple #[.int .i64 0, .bool false]) ∧ Below w.heap.size w w' by unfold RdB rdV; rw [hr]; rfl)
    clear hp hS hR ht hr
    go_enter Tryd.func72, Tryd.ntmps72
    go_wp2_with fail
    refine HC.out.mono ?_
    rintro e w1 ⟨N, rfl, -, -, hb⟩
    have B := Lib.hid hb
    clear hb
    go_wp2
    go_ret2
    rw [HR.out]
    exact ⟨rfl, B.out⟩
  ·
    have HC := Lib.hid (Tryd.strconv_ParseInt_10_at64_range_var s (by omega) hp tR pR w hR)
    have hr : rdOk s = false := by
      cases h : rdOk s with
      | false => rfl
      | true => rw [(rd_parse h).1] at hp; cases hp
    have HR := Lib.hid (show RdB s w = fun e w' => e = .returned (.tuple #[.int .i64 0, .bool false]) ∧ Below w.heap.size w w' by unfold RdB rdV; rw [hr]; rfl)
    clear hp hS hR ht hr
    go_enter Tryd.func72, Tryd.ntmps72
    go_wp2_with fail
    refine HC.out.mono ?_
    rintro e w1 ⟨N, rfl, -, -, hb⟩
    have B := Lib.hid hb
    clear hb
    go_wp2
    go_ret2
    rw [HR.out]
    exact ⟨rfl, B.out⟩
  ·
    have HC := Lib.hid (Tryd.strconv_ParseInt_10_at64_ok s (by omega) v hp w)
    have hb := Lib.parseIntB_bounds hp
    have b0 : -9223372036854775808 ≤ v := by have := hb.1; simpa using this
    have b1 : v ≤ 9223372036854775807 := by have := hb.2; simp at this; omega
    have HV := Lib.hid (fun w1 => implIsValue_any v w1)
    have HD := Lib.hid (fun w1 h => implDec_any v w1 b0 b1 h)
    have HT := Lib.hid ht
    by_cases hv : -1000000000000000 ≤ v ∧ v ≤ 1000000000000000
    · have hd : (decide (-1000000000000000 ≤ v) && decide (v ≤ 1000000000000000)) = true := by simp [hv.1, hv.2]
      by_cases he : decZ v = s
      · obtain ⟨r1, r2⟩ := rdOk_of hv.1 hv.2 he
        have HR := Lib.hid (show RdB s w = fun e w' => e = .returned (.tuple #[.int .i64 v, .bool true]) ∧ Below w.heap.size w w' by unfold RdB rdV; rw [r1, if_pos rfl, r2])
        have hne : ((decZ v).toList == s.toList) = true := by rw [he]; exact beq_self_eq_true _
        rw [hd] at HV
        clear hp hS hR ht hb b0 b1 hv r1 r2 he hd
        go_enter Tryd.func72, Tryd.ntmps72
        go_wp2_with fail
        refine HC.out.mono ?_
        rintro e w1 ⟨rfl, hw⟩
        have hb : Below w.heap.size w w1 := by
          rcases hw with rfl | ⟨t, rfl⟩
          · exact Below.refl _ _
          · exact Lib.bytesWorld_below _ _ _
        have B := Lib.hid hb
        have HT := Lib.hid (HT.out.below hb)
        clear hb hw
        go_wp2_with fail
        refine (HV.out _).mono ?_
        rintro e w2 ⟨rfl, rfl⟩
        go_wp2_with fail
        refine (HD.out _ HT.out.t).mono ?_
        rintro e w3 ⟨rfl, hb⟩
        have B := Lib.hid (below_step B.out hb)
        clear hb
        go_wp2
        go_ret2
        rw [HR.out]
        exact ⟨rfl, B.out⟩
      · skip
        have hr : rdOk s = false := by
          cases h : rdOk s with
          | false => rfl
          | true =>
            obtain ⟨h1, -, -, h2⟩ := rd_parse h
            rw [h1] at hp
            cases hp
            exact absurd h2 he
        have HR := Lib.hid (show RdB s w = fun e w' => e = .returned (.tuple #[.int .i64 0, .bool false]) ∧ Below w.heap.size w w' by unfold RdB rdV; rw [hr]; rfl)
        have hne : ((decZ v).toList == s.toList) = false := zne he
        rw [hd] at HV
        clear hp hS hR ht hb b0 b1 hv hr he hd
        go_enter Tryd.func72, Tryd.ntmps72
        go_wp2_with fail
        refine HC.out.mono ?_
        rintro e w1 ⟨rfl, hw⟩
        have hb : Below w.heap.size w w1 := by
          rcases hw with rfl | ⟨t, rfl⟩
          · exact Below.refl _ _
          · exact Lib.bytesWorld_below _ _ _
        have B := Lib.hid hb
        have HT := Lib.hid (HT.out.below hb)
        clear hb hw
        go_wp2_with fail
        refine (HV.out _).mono ?_
        rintro e w2 ⟨rfl, rfl⟩
        go_wp2_with fail
        refine (HD.out _ HT.out.t).mono ?_
        rintro e w3 ⟨rfl, hb⟩
        have B := Lib.hid (below_step B.out hb)
        clear hb
        go_wp2
        go_ret2
        rw [HR.out]
        exact ⟨rfl, B.out⟩
    · skip
      have hr : rdOk s = false := by
        cases h : rdOk s with
        | false => rfl
        | true =>
          obtain ⟨h1, h2, h3, -⟩ := rd_parse h
          rw [h1] at hp
          cases hp
          exact absurd ⟨h2, h3⟩ hv
      have HR := Lib.hid (show RdB s w = fun e w' => e = .returned (.tuple #[.int .i64 0, .bool false]) ∧ Below w.heap.size w w' by unfold RdB rdV; rw [hr]; rfl)
      have hd : (decide (-1000000000000000 ≤ v) && decide (v ≤ 1000000000000000)) = false := by
        cases h : (decide (-1000000000000000 ≤ v) && decide (v ≤ 1000000000000000)) with
        | false => rfl
        | true => simp at h; exact absurd h hv
      rw [hd] at HV
      clear hp hS hR ht hb b0 b1 hv hr hd
      go_enter Tryd.func72, Tryd.ntmps72
      go_wp2_with fail
      refine HC.out.mono ?_
      rintro e w1 ⟨rfl, hw⟩
      have hb : Below w.heap.size w w1 := by
        rcases hw with rfl | ⟨t, rfl⟩
        · exact Below.refl _ _
        · exact Lib.bytesWorld_below _ _ _
      have B := Lib.hid hb
      clear hb hw
      go_wp2_with fail
      refine (HV.out _).mono ?_
      rintro e w2 ⟨rfl, rfl⟩
      go_wp2
      go_ret2
      rw [HR.out]
      exact ⟨rfl, B.out⟩
end Go.Proofs.YtncjkhdnpioinaaDoor

/- Lists of integers read from a text: what they are, and a text cut at a mark at most so often. -/
namespace Go.Proofs.YtncjkhdnpioinaaDoor
open Go
set_option linter.unusedVariables false

theorem hit_or (c : UInt8) (s : ByteArray) : Lib.indexB s (mkZ c) = -1 ∨ ∃ i : Nat, Lib.indexB s (mkZ c) = i := by
  have hL : s.data.toList.length = s.size := Array.length_toList
  rcases first_mark c s.data.toList with h | ⟨i, h, hi⟩
  · exact .inl (idx_none (fun j hj => h j (by omega)))
  · exact .inr ⟨i, idx_at h hi⟩
theorem split_more (c : UInt8) : ∀ (K : Nat) (s : ByteArray), Lib.countB s (mkZ c) ≤ K → Lib.splitB (mkZ c) 0 K s = cutZ c s := by
  intro K
  induction K with
  | zero =>
    intro s h
    unfold cutZ
    rw [show Lib.countB s (mkZ c) = 0 by omega]
  | succ K ih =>
    intro s h
    rcases hit_or c s with e | ⟨i, e⟩
    · unfold cutZ
      rw [Lib.splitB_miss _ _ _ _ e, Lib.countB_miss _ _ e]; rfl
    · have hc := Lib.countB_hit s (mkZ c) i (Nat.le_refl 1) e
      unfold cutZ
      rw [hc, Nat.add_comm 1, Lib.splitB_hit _ _ _ _ _ e, Lib.splitB_hit _ _ _ _ _ e, ih _ (by omega)]
      rfl
theorem split_len (c : UInt8) : ∀ (K : Nat) (s : ByteArray), K ≤ Lib.countB s (mkZ c) → (Lib.splitB (mkZ c) 0 K s).length = K + 1 := by
  intro K
  induction K with
  | zero => intro s h; rfl
  | succ K ih =>
    intro s h
    rcases hit_or c s with e | ⟨i, e⟩
    · rw [Lib.countB_miss _ _ e] at h; omega
    · have hc := Lib.countB_hit s (mkZ c) i (Nat.le_refl 1) e
      rw [Lib.splitB_hit _ _ _ _ _ e, List.length_cons, ih _ (by omega)]
/-- a text cut at most M times: the parts, if they are few, or too many -/
theorem splitN_few (c : UInt8) (s : ByteArray) (M : Nat) (h : (cutZ c s).length ≤ M) : Lib.splitB (mkZ c) 0 (min (M + 1) (s.size + 1) - 1) s = cutZ c s := by
  have h1 := cutZ_length c s
  have h2 := Lib.countB_le (mkZ c) (Nat.le_refl 1) s.size s (Nat.le_refl _)
  exact split_more c _ s (by omega)
theorem splitN_many (c : UInt8) (s : ByteArray) (M : Nat) (h : ¬ (cutZ c s).length ≤ M) : (Lib.splitB (mkZ c) 0 (min (M + 1) (s.size + 1) - 1) s).length = M + 1 := by
  have h1 := cutZ_length c s
  have h2 := Lib.countB_le (mkZ c) (Nat.le_refl 1) s.size s (Nat.le_refl _)
  rw [split_len c _ s (by omega)]
  omega

def isNone (s : ByteArray) : Bool := s.toList == [110, 111, 110, 101]
/-- whether a text is that of a list, and the list -/
def rlOk (s : ByteArray) : Bool := isNone s || (decide ((cutZ 44 s).length ≤ 64) && (cutZ 44 s).all rdOk)
def rlL (s : ByteArray) : List Int := if isNone s then [] else if rlOk s then (cutZ 44 s).map rdV else []
theorem rl_none {s : ByteArray} (h : isNone s = true) : rlOk s = true ∧ rlL s = [] := by
  unfold rlOk rlL; rw [h]; exact ⟨rfl, rfl⟩
theorem rl_many {s : ByteArray} (h : isNone s = false) (hm : ¬ (cutZ 44 s).length ≤ 64) : rlOk s = false ∧ rlL s = [] := by
  have e : rlOk s = false := by unfold rlOk; rw [h, decide_eq_false hm]; rfl
  exact ⟨e, by unfold rlL; rw [h, e]; rfl⟩
theorem rl_bad {s : ByteArray} (h : isNone s = false) {k : Nat} (hk : k < (cutZ 44 s).length) (hb : rdOk ((cutZ 44 s).getD k ⟨#[]⟩) = false) : rlOk s = false ∧ rlL s = [] := by
  have e : rlOk s = false := by
    unfold rlOk
    have : (cutZ 44 s).all rdOk = false := by
      rw [List.all_eq_false]
      refine ⟨_, List.getElem_mem hk, ?_⟩
      rw [List.getD_eq_getElem?_getD, List.getElem?_eq_getElem hk] at hb
      simpa using hb
    rw [h, this, Bool.and_false]; rfl
  exact ⟨e, by unfold rlL; rw [h, e]; rfl⟩
theorem rl_good {s : ByteArray} (h : isNone s = false) (hm : (cutZ 44 s).length ≤ 64) (ha : ∀ k, k < (cutZ 44 s).length → rdOk ((cutZ 44 s).getD k ⟨#[]⟩) = true) : rlOk s = true ∧ rlL s = (cutZ 44 s).map rdV := by
  have e : rlOk s = true := by
    unfold rlOk
    have : (cutZ 44 s).all rdOk = true := by
      rw [List.all_eq_true]
      intro x hx
      obtain ⟨k, hk, rfl⟩ := List.getElem_of_mem hx
      have := ha k hk
      rw [List.getD_eq_getElem?_getD, List.getElem?_eq_getElem hk] at this
      exact this
    rw [h, this, decide_eq_true hm]; rfl
  exact ⟨e, by unfold rlL; rw [h, e]; rfl⟩
theorem rlL_le (s : ByteArray) : (rlL s).length ≤ 64 := by
  unfold rlL
  split
  · simp
  · split
    · next h1 h2 =>
      unfold rlOk at h2
      rw [show isNone s = false by simpa using h1] at h2
      simp only [Bool.false_or, Bool.and_eq_true, decide_eq_true_eq] at h2
      simpa using h2.1
    · simp
end Go.Proofs.YtncjkhdnpioinaaDoor

/- Numbers read from hexadecimal digits: one number, the program's side. -/
namespace Go.Proofs.YtncjkhdnpioinaaDoor
open Go.RowKit
set_option linter.unusedVariables false

/-- the value of a digit, or less than 0 -/
def hxd (c : Int) : Int := if 48 ≤ c ∧ c ≤ 57 then c - 48 else if 97 ≤ c ∧ c ≤ 102 then c - 87 else -1
theorem hxd_dig {c : Int} (h0 : 48 ≤ c) (h1 : c ≤ 57) : hxd c = c - 48 := if_pos ⟨h0, h1⟩
theorem hxd_low {c : Int} (h0 : 97 ≤ c) (h1 : c ≤ 102) : hxd c = c - 87 := by unfold hxd; rw [if_neg (by omega), if_pos ⟨h0, h1⟩]
theorem hxd_no {c : Int} (h0 : ¬ (48 ≤ c ∧ c ≤ 57)) (h1 : ¬ (97 ≤ c ∧ c ≤ 102)) : hxd c = -1 := by unfold hxd; rw [if_neg h0, if_neg h1]
theorem hxd_le (c : Int) : hxd c ≤ 15 := by
  unfold hxd
  split
  · omega
  · split <;> omega
/-- what the first digits make -/
def hxv (s : ByteArray) : Nat → Int
  | 0 => 0
  | k + 1 => 16 * hxv s k + hxd (byteAt s k)
theorem hxv_bd (s : ByteArray) : ∀ k : Nat, (∀ j, j < k → 0 ≤ hxd (byteAt s j)) → 0 ≤ hxv s k ∧ hxv s k < ((16 ^ k : Nat) : Int)
  | 0, _ => ⟨Int.le_refl _, by show (0 : Int) < 1; omega⟩
  | k + 1, h => by
    have ⟨h0, h1⟩ := hxv_bd s k (fun j hj => h j (by omega))
    have h2 := h k (by omega)
    have h3 := hxd_le (byteAt s k)
    have e : (16 ^ (k + 1) : Nat) = 16 ^ k * 16 := Nat.pow_succ ..
    show 0 ≤ 16 * hxv s k + hxd (byteAt s k) ∧ 16 * hxv s k + hxd (byteAt s k) < _
    rw [e]
    omega
theorem hxv_lt (s : ByteArray) {k : Nat} (hk : k ≤ 8) (h : ∀ j, j < k → 0 ≤ hxd (byteAt s j)) : 0 ≤ hxv s k ∧ hxv s k ≤ 4294967295 := by
  have ⟨h0, h1⟩ := hxv_bd s k h
  have h2 : 16 ^ k ≤ 16 ^ 8 := Nat.pow_le_pow_right (by decide) hk
  have e : (16 : Nat) ^ 8 = 4294967296 := by decide
  omega
instance (s : ByteArray) : Decidable (∀ j : Nat, j < 8 → 0 ≤ hxd (byteAt s j)) := Nat.decidableBallLT 8 fun j _ => 0 ≤ hxd (byteAt s j)
/-- whether a text is that of a number, and the number -/
def rnOk (s : ByteArray) : Bool := decide (s.size = 8 ∧ (∀ j, j < 8 → 0 ≤ hxd (byteAt s j)) ∧ (hbit (hxv s 8).toNat : Int) = hxv s 8)
def rnV (s : ByteArray) : Nat := if rnOk s then (hxv s 8).toNat else 0
theorem rn_size {s : ByteArray} (h : ¬ s.size = 8) : rnOk s = false := decide_eq_false fun x => h x.1
theorem rn_dig {s : ByteArray} {j : Nat} (hj : j < 8) (h : hxd (byteAt s j) < 0) : rnOk s = false := decide_eq_false fun x => by have := x.2.1 j hj; omega
theorem rn_bits {s : ByteArray} (h : ¬ (hbit (hxv s 8).toNat : Int) = hxv s 8) : rnOk s = false := decide_eq_false fun x => h x.2.2
theorem rn_yes {s : ByteArray} (h : s.size = 8) (h1 : ∀ j, j < 8 → 0 ≤ hxd (byteAt s j)) (h2 : (hbit (hxv s 8).toNat : Int) = hxv s 8) : rnOk s = true ∧ rnV s = (hxv s 8).toNat := by
  have e : rnOk s = true := decide_eq_true ⟨h, h1, h2⟩
  exact ⟨e, by unfold rnV; rw [if_pos e]⟩
theorem rnV_no {s : ByteArray} (h : rnOk s = false) : rnV s = 0 := by unfold rnV; rw [h]; rfl
def RnB (s : ByteArray) (w : World) (e : Ending) (w' : World) : Prop := e = .returned (.tuple #[.float .f32 (rnV s), .bool (rnOk s)]) ∧ Below w.heap.size w w'
theorem RnB_no {s : ByteArray} {w : World} (h : rnOk s = false) : RnB s w = fun e w' => e = .returned (.tuple #[.float .f32 0, .bool false]) ∧ Below w.heap.size w w' := by
  unfold RnB; rw [rnV_no h, h]
theorem implHd_yes (r : Int) (w : World) (h : 0 ≤ hxd r) : Calls Tryd.prog 174 #[.int .i32 r] w fun e w' => e = .returned (.tuple #[.int .i64 (hxd r), .bool true]) ∧ w' = w := by
  by_cases a : 48 ≤ r ∧ r ≤ 57
  · have e := hxd_dig a.1 a.2
    have c1 : decide (48 ≤ r) = true := decide_eq_true a.1
    have c2 : decide (r ≤ 57) = true := decide_eq_true a.2
    have e1 : IntKind.i32.wrap (r - 48) = r - 48 := by unfold IntKind.wrap; simp [IntKind.bits, IntKind.signed]; omega
    have e2 : IntKind.i64.wrap (r - 48) = r - 48 := by unfold IntKind.wrap; simp [IntKind.bits, IntKind.signed]; omega
    rw [e]
    clear e h a
    go_enter Tryd.func174, Tryd.ntmps174
    go_wp2
    go_ret2
    exact ⟨rfl, rfl⟩
  · by_cases b : 97 ≤ r ∧ r ≤ 102
    · have e := hxd_low b.1 b.2
      have c1 : decide (48 ≤ r) = true := decide_eq_true (by omega)
      have c2 : decide (r ≤ 57) = false := decide_eq_false (by omega)
      have c3 : decide (97 ≤ r) = true := decide_eq_true b.1
      have c4 : decide (r ≤ 102) = true := decide_eq_true b.2
      have e1 : IntKind.i32.wrap (r - 97) = r - 97 := by unfold IntKind.wrap; simp [IntKind.bits, IntKind.signed]; omega
      have e2 : IntKind.i64.wrap (r - 97) = r - 97 := by unfold IntKind.wrap; simp [IntKind.bits, IntKind.signed]; omega
      have e3 : IntKind.i64.wrap (r - 97 + 10) = r - 97 + 10 := by unfold IntKind.wrap; simp [IntKind.bits, IntKind.signed]; omega
      have HE := Lib.hid (show r - 97 + 10 = hxd r by rw [e]; omega)
      clear e h a b
      go_enter Tryd.func174, Tryd.ntmps174
      go_wp2
      go_ret2
      rw [HE.out]
      exact ⟨rfl, rfl⟩
    · rw [hxd_no a b] at h; omega
theorem implHd_no (r : Int) (w : World) (h : hxd r < 0) : Calls Tryd.prog 174 #[.int .i32 r] w fun e w' => e = .returned (.tuple #[.int .i64 0, .bool false]) ∧ w' = w := by
  have a : ¬ (48 ≤ r ∧ r ≤ 57) := fun a => by have := hxd_dig a.1 a.2; omega
  have b : ¬ (97 ≤ r ∧ r ≤ 102) := fun a => by have := hxd_low a.1 a.2; omega
  by_cases a1 : 48 ≤ r
  · have c1 : decide (48 ≤ r) = true := decide_eq_true a1
    have c2 : decide (r ≤ 57) = false := decide_eq_false (by omega)
    by_cases b1 : 97 ≤ r
    · have c3 : decide (97 ≤ r) = true := decide_eq_true b1
      have c4 : decide (r ≤ 102) = false := decide_eq_false (by omega)
      go_enter Tryd.func174, Tryd.ntmps174
      go_wp2
      go_ret2
      exact ⟨rfl, rfl⟩
    · have c3 : decide (97 ≤ r) = false := decide_eq_false b1
      go_enter Tryd.func174, Tryd.ntmps174
      go_wp2
      go_ret2
      exact ⟨rfl, rfl⟩
  · have c1 : decide (48 ≤ r) = false := decide_eq_false a1
    have c3 : decide (97 ≤ r) = false := decide_eq_false (by omega)
    go_enter Tryd.func174, Tryd.ntmps174
    go_wp2
    go_ret2
    exact ⟨rfl, rfl⟩
theorem implFb_any (n : Int) (w : World) (h0 : 0 ≤ n) (h1 : n ≤ 4294967295) : Calls Tryd.prog 175 #[.int .i64 n] w fun e w' => e = .returned (.tuple #[.float .f32 n.toNat, .bool true]) ∧ w' = w := by
  go_enter Tryd.func175, Tryd.ntmps175
  go_wp2_with go_in
  go_ret2
  exact ⟨rfl, rfl⟩
theorem specFr_any (n : Int) (w : World) (h0 : 0 ≤ n) (h1 : n ≤ 4294967295) : Calls Tryd.prog 160 #[.int .i64 n] w fun e w' => e = .returned (.float .f32 n.toNat) ∧ w' = w := by
  go_enter Tryd.func160, Tryd.ntmps160
  go_wp2_with go_in
  go_ret
  exact ⟨rfl, rfl⟩
theorem wf_of {n : Int} (h0 : 0 ≤ n) (h1 : n ≤ 4294967295) : (Lit.float .f32 n.toNat).wf = true := by
  simp [Lit.wf]; omega
theorem below_it (w : World) (s : ByteArray) (p : Nat) : Below w.heap.size w (w.iter s p) := (Below.refl _ _).alloc (Nat.le_refl _) _

set_option maxHeartbeats 1600000 in
set_option maxRecDepth 4000 in
theorem implRn_any (s : ByteArray) (w : World) : Calls Tryd.prog 136 #[.string s] w (RnB s w) := by
  by_cases h8 : s.size = 8
  · have hd8 : ((s.size : Int) != 8) = false := by simp [h8]
    have hd9 : ((s.size : Int) == 8) = true := by simp [h8]
    have HY := Lib.hid (fun r h w1 => implHd_yes r w1 h)
    have HNo := Lib.hid (fun r h w1 => implHd_no r w1 h)
    have HF := Lib.hid (fun n h0 h1 w1 => implFb_any n w1 h0 h1)
    have HB := Lib.hid (fun a h w1 => implHb_any a w1 h)
    go_enter Tryd.func136, Tryd.ntmps136
    go_wp2
    go_loopw [4, 6, 7, 8] (fun n _ _ _ w' => ∃ pos : Nat, pos ≤ s.size ∧ n = .int .i64 (hxv s pos) ∧ w' = w.iter s pos ∧ Hid (∀ j, j < pos → 0 ≤ hxd (byteAt s j))) (fun _ _ _ _ w' => s.size - w'.iterPos w.heap.size)
    case atStart => exact ⟨0, Nat.zero_le _, rfl, rfl, Lib.hid (fun j h => by omega)⟩
    case round =>
      obtain ⟨pos, hpos, rfl, rfl, hall⟩ := hrel
      have hvb := hxv_lt s (k := pos) (by omega) hall.out
      by_cases hp : pos < s.size
      · have hb := byteAt_eq s pos hp
        by_cases ha : (s[pos]'hp).toNat < 128
        · have hnx : ∀ ty, (Instr.next (.pointer (some ⟨w.heap.size, 0, none⟩)) true ty).run Tryd.prog (w.iter s pos) = .ok (.tuple #[.bool true, .int .i64 pos, .int .i32 (byteAt s pos)]) (w.iter s (pos + 1)) := fun ty => by rw [run_next_ascii w s pos ty hp ha, hb]
          clear hb ha
          by_cases g : 0 ≤ hxd (byteAt s pos)
          · have HD := Lib.hid (HY.out _ g)
            have hdl := hxd_le (byteAt s pos)
            obtain ⟨d, hdd⟩ : ∃ d, hxd (byteAt s pos) = d := ⟨_, rfl⟩
            obtain ⟨n, hnn⟩ : ∃ n, hxv s pos = n := ⟨_, rfl⟩
            have HS : Hid (hxv s (pos + 1) = 16 * n + d) := Lib.hid (by rw [← hdd, ← hnn]; rfl)
            have hnew := Lib.hid (show ∀ j, j < pos + 1 → 0 ≤ hxd (byteAt s j) from fun j hj => by
              by_cases e : j = pos
              · rw [e]; exact g
              · exact hall.out j (by omega))
            rw [hdd] at HD hdl g
            rw [hnn] at hvb ⊢
            clear hdd hnn
            have e1 : IntKind.i64.wrap (16 * n) = 16 * n := by unfold IntKind.wrap; simp [IntKind.bits, IntKind.signed]; omega
            have e2 : IntKind.i64.wrap (16 * n + d) = 16 * n + d := by unfold IntKind.wrap; simp [IntKind.bits, IntKind.signed]; omega
            go_wp2_with fail
            refine (HD.out _).mono ?_
            rintro e w1 ⟨rfl, rfl⟩
            go_wp2
            go_roundw
            case rel => exact ⟨pos + 1, by omega, by rw [HS.out], rfl, hnew⟩
            case measure => simp; omega
          · have HD := Lib.hid (HNo.out (byteAt s pos) (by omega))
            have HR := Lib.hid (RnB_no (w := w) (rn_dig (s := s) (j := pos) (by omega) (by omega)))
            clear g
            go_wp2_with fail
            refine (HD.out _).mono ?_
            rintro e w1 ⟨rfl, rfl⟩
            go_wp2
            go_ret2
            rw [HR.out]
            exact ⟨rfl, below_it _ _ _⟩
        · have hi := decode_high s pos hp (by omega)
          have hlo := decode_le s pos
          have hnx : ∀ ty, (Instr.next (.pointer (some ⟨w.heap.size, 0, none⟩)) true ty).run Tryd.prog (w.iter s pos) = .ok (.tuple #[.bool true, .int .i64 pos, .int .i32 (Utf8.decode s pos).1]) (w.iter s (pos + (Utf8.decode s pos).2)) := fun ty => run_next_any w s pos ty hp
          have g0 : hxd (byteAt s pos) = -1 := hxd_no (by omega) (by omega)
          have HR := Lib.hid (RnB_no (w := w) (rn_dig (s := s) (j := pos) (by omega) (by omega)))
          clear hb ha g0
          generalize (Utf8.decode s pos).1 = r at *
          generalize (Utf8.decode s pos).2 = q at *
          have g1 : hxd (r : Int) = -1 := hxd_no (by omega) (by omega)
          have HD := Lib.hid (HNo.out (r : Int) (by omega))
          clear g1
          go_wp2_with fail
          refine (HD.out _).mono ?_
          rintro e w1 ⟨rfl, rfl⟩
          go_wp2
          go_ret2
          rw [HR.out]
          exact ⟨rfl, below_it _ _ _⟩
      · have e : pos = 8 := by omega
        subst e
        have hnx : ∀ ty, (Instr.next (.pointer (some ⟨w.heap.size, 0, none⟩)) true ty).run Tryd.prog (w.iter s 8) = .ok (.tuple #[.bool false]) (w.iter s 8) := fun ty => run_next_end w s 8 ty hp
        have HFB := Lib.hid (HF.out _ hvb.1 hvb.2)
        have HBB := Lib.hid (HB.out _ (wf_of hvb.1 hvb.2))
        by_cases hq : (hbit (hxv s 8).toNat : Int) = hxv s 8
        · have HR := Lib.hid (show RnB s w = fun e w' => e = .returned (.tuple #[.float .f32 (hxv s 8).toNat, .bool true]) ∧ Below w.heap.size w w' by
            have y := rn_yes h8 hall.out hq
            unfold RnB; rw [y.1, y.2])
          obtain ⟨n, hnn⟩ : ∃ n, hxv s 8 = n := ⟨_, rfl⟩
          rw [hnn] at HR hq HFB HBB ⊢
          obtain ⟨t, htt⟩ : ∃ t : Nat, n.toNat = t := ⟨_, rfl⟩
          rw [htt] at HR hq HFB HBB
          obtain ⟨u, huu⟩ : ∃ u : Nat, hbit t = u := ⟨_, rfl⟩
          rw [huu] at HBB hq
          have q1 : ((u : Int) == n) = true := by simp [hq]
          have q2 : ((u : Int) != n) = false := by simp [hq]
          clear hnn htt huu hvb hq
          go_wp2_with fail
          refine (HFB.out _).mono ?_
          rintro e w1 ⟨rfl, rfl⟩
          go_wp2_with fail
          refine (HBB.out _).mono ?_
          rintro e w1 ⟨rfl, rfl⟩
          go_wp2
          go_ret2
          rw [HR.out]
          exact ⟨rfl, below_it _ _ _⟩
        · have HR := Lib.hid (RnB_no (w := w) (rn_bits hq))
          obtain ⟨n, hnn⟩ : ∃ n, hxv s 8 = n := ⟨_, rfl⟩
          rw [hnn] at hq HFB HBB ⊢
          obtain ⟨t, htt⟩ : ∃ t : Nat, n.toNat = t := ⟨_, rfl⟩
          rw [htt] at hq HFB HBB
          obtain ⟨u, huu⟩ : ∃ u : Nat, hbit t = u := ⟨_, rfl⟩
          rw [huu] at HBB hq
          have q1 : ((u : Int) == n) = false := by simp [hq]
          have q2 : ((u : Int) != n) = true := by simp [hq]
          clear hnn htt huu hvb hq
          go_wp2_with fail
          refine (HFB.out _).mono ?_
          rintro e w1 ⟨rfl, rfl⟩
          go_wp2_with fail
          refine (HBB.out _).mono ?_
          rintro e w1 ⟨rfl, rfl⟩
          go_wp2
          go_ret2
          rw [HR.out]
          exact ⟨rfl, below_it _ _ _⟩
  · have hd8 : ((s.size : Int) != 8) = true := by simp; omega
    have hd9 : ((s.size : Int) == 8) = false := by simp; omega
    have HR := Lib.hid (RnB_no (w := w) (rn_size h8))
    go_enter Tryd.func136, Tryd.ntmps136
    go_wp2
    go_ret2
    rw [HR.out]
    exact ⟨rfl, Below.refl _ _⟩
end Go.Proofs.YtncjkhdnpioinaaDoor

/- A slice of strings that a call makes itself, and appends to. -/
namespace Go.Proofs.YtncjkhdnpioinaaDoor
open Go.RowKit
set_option linter.unusedVariables false

/-- the value v reads as the list zs of numbers: empty, or a row of cells -/
def ZRow (w : World) (v : Value) (zs : List ByteArray) : Prop :=
  ((∃ a c, v = .slice a 0 c) ∧ zs = []) ∨
  ∃ b off cap, v = .slice (some ⟨b, off, none⟩) zs.length cap ∧ zs.length ≤ maxLen ∧ ∀ i, i < zs.length → w.cell? ⟨b, off + i, none⟩ = some (.string (zs.getD i ⟨#[]⟩))

theorem ZRow.below {w w' : World} {v : Value} {zs : List ByteArray} (h : ZRow w v zs) (hb : Below w.heap.size w w') : ZRow w' v zs := by
  rcases h with h | ⟨b, off, cap, e, hm, hc⟩
  · exact .inl h
  · refine .inr ⟨b, off, cap, e, hm, fun i hi => ?_⟩
    have := hc i hi
    rw [hb.cell (p := ⟨b, off + i, none⟩) (cell_lt this)]
    exact this

theorem ZRow.drewN {w : World} {v : Value} {zs : List ByteArray} {n : Nat} (h : ZRow w v zs) : ZRow (w.drewN n) v zs := h


/-- how long a slice is -/
theorem ZRow.shape {w : World} {v : Value} {zs : List ByteArray} (h : ZRow w v zs) : ∃ a cap, v = .slice a zs.length cap := by
  rcases h with ⟨h, rfl⟩ | ⟨b, off, cap, rfl, _⟩
  · exact h
  · exact ⟨_, _, rfl⟩

abbrev slz (p : Nat) (zs : List ByteArray) : Value := .slice (some ⟨p, 0, none⟩) zs.length zs.length
def flz (zs : List ByteArray) : List Value := zs.map (.string)
theorem ZRow.of_cells {w : World} {p : Nat} {zs : List ByteArray} (h : Cells w p (flz zs)) (hm : zs.length ≤ maxLen) : ZRow w (slz p zs) zs :=
  .inr ⟨p, 0, _, rfl, hm, fun i hi => by rw [Nat.zero_add]; exact h.1 i _ (by simp [flz, hi, List.getD_eq_getElem?_getD])⟩

theorem ZRow.cells {w : World} {v : Value} {zs : List ByteArray} (h : ZRow w v zs) (hn : 1 ≤ zs.length) : ∃ b off cap, v = .slice (some ⟨b, off, none⟩) zs.length cap ∧ ∀ i, i < zs.length → w.cell? ⟨b, off + i, none⟩ = some (.string (zs.getD i ⟨#[]⟩)) := by
  rcases h with ⟨_, rfl⟩ | ⟨b, off, cap, e, hm, hc⟩
  · simp at hn
  · exact ⟨b, off, cap, e, hc⟩

theorem ZRow.len {w : World} {v : Value} {zs : List ByteArray} (h : ZRow w v zs) : zs.length ≤ 9223372036854775807 := by
  rcases h with ⟨_, rfl⟩ | ⟨_, _, _, _, hm, _⟩
  · simp
  · exact hm

theorem Tryd.rowOfZ : (Tryd.prog.info? 9).map (fun i => (i.zero, i.size, i.bytes)) = some (some (.string ⟨#[]⟩), 1, 16) := by kernel_rfl
theorem infoZ : ∃ i, Tryd.prog.info? 9 = some i ∧ i.zero = some (.string ⟨#[]⟩) ∧ i.size = 1 ∧ i.bytes = 16 := by
  have h := Tryd.rowOfZ
  cases e : Tryd.prog.info? 9 with
  | none => rw [e] at h; simp at h
  | some i =>
    rw [e] at h
    simp only [Option.map_some, Option.some.injEq, Prod.mk.injEq] at h
    exact ⟨i, rfl, h.1, h.2.1, h.2.2⟩

/-- a slice of the call's own reads as zs -/
def OwnZ (w : World) (base : Nat) (v : Value) (zs : List ByteArray) : Prop := w.ownsRow base 9 1 v zs.length (flz zs)
theorem OwnZ.drewN {w : World} {base : Nat} {v : Value} {zs : List ByteArray} (h : OwnZ w base v zs) (n : Nat) : OwnZ (w.drewN n) base v zs := h
theorem OwnZ.al {w : World} {base : Nat} {v : Value} {zs : List ByteArray} (h : OwnZ w base v zs) (o : Obj) : OwnZ (w.alloc o) base v zs := World.ownsRow.alloc h o
theorem OwnZ.kept {w w' : World} {base : Nat} {v : Value} {zs : List ByteArray} (h : OwnZ w base v zs) (hb : Below w.heap.size w w') : OwnZ w' base v zs := by
  obtain ⟨h1, h2⟩ := h
  refine ⟨h1, ?_⟩
  rcases h2 with h2 | ⟨g, cap, cur, e, hg, hc, h3⟩
  · exact .inl h2
  · refine .inr ⟨g, cap, cur, e, hg, ?_, h3⟩
    have hlt : g < w.heap.size := by
      by_cases hx : g < w.heap.size
      · exact hx
      · rw [Array.getElem?_eq_none (by simpa using hx)] at hc
        cases hc
    rw [hb.block g hlt]
    exact hc
theorem OwnZ.down {w : World} {base b' : Nat} {v : Value} {zs : List ByteArray} (h : OwnZ w base v zs) (hb : b' ≤ base) : OwnZ w b' v zs := by
  obtain ⟨h1, h2⟩ := h
  refine ⟨h1, ?_⟩
  rcases h2 with h2 | ⟨g, cap, cur, e, hg, hc, h3⟩
  · exact .inl h2
  · exact .inr ⟨g, cap, cur, e, Nat.le_trans hb hg, hc, h3⟩
theorem OwnZ.row {w : World} {base : Nat} {v : Value} {zs : List ByteArray} (h : OwnZ w base v zs) (hm : zs.length ≤ 1048576) : ZRow w v zs := by
  have h0 := h
  obtain ⟨h1, h2⟩ := h
  have hx : maxLen = 9223372036854775807 := rfl
  rcases h2 with ⟨rfl, hn⟩ | ⟨g, cap, cur, e, hg, hc, h3⟩
  · have : zs = [] := List.length_eq_zero_iff.1 hn
    subst this
    exact .inl ⟨⟨_, _, rfl⟩, rfl⟩
  · refine .inr ⟨g, 0, cap, e, by omega, fun i hi => ?_⟩
    subst e
    rw [Nat.zero_add, World.ownsRow.cellAt h0 i (by omega)]
    simp [flz, hi, List.getD_eq_getElem?_getD]
theorem OwnZ.empty (w : World) (base : Nat) (hb : base ≤ w.heap.size) : OwnZ (w.alloc (.cells #[] 9)) base (.slice (some ⟨w.heap.size, 0, none⟩) 0 0) [] :=
  World.ownsRow_lit (w := w) (base := base) (e := 9) (size := 1) #[] 0 hb (by decide) rfl

theorem wpList_appZ {ops : Array Oper} {rest : List Oper} {o : Oper} {a : Act} {Q : Exit → Act → World → Prop} {w : World} (hgd : o.guard = none) (s x : Operand)
    (ho : o.op = .call { callee := .builtin .append, args := #[s, x], argTypes := #[65, 65] })
    (base : Nat) (v : Value) (zs : List ByteArray) (hs : a.eval s = v) (hown : OwnZ w base v zs) (q c : Nat) (z : ByteArray) (hx : a.eval x = .slice (some ⟨q, 0, none⟩) 1 c) (hq : w.cell? ⟨q, 0, none⟩ = some (.string z))
    (hk : zs.length ≤ 1048576) (hbase : base ≤ w.heap.size)
    (h : ∀ v' w', OwnZ w' base v' (zs ++ [z]) → Below base w w' → wpList Tryd.prog ops Q rest (a.put o.dst v') w') : wpList Tryd.prog ops Q (o :: rest) a w := by
  obtain ⟨i, hi, hz, hsz, hby⟩ := infoZ
  have hm : maxLen = 9223372036854775807 := rfl
  refine wpList_append_own w hgd s x _ ho base 9 i (.string ⟨#[]⟩) 1 16 Tryd.underlying65 hi hz hsz hby rfl (by decide) v zs.length (flz zs) hs hown ⟨q, 0, none⟩ 1 c [.string z] hx rfl (fun j u hj => ?_) (fun u hu => ?_) (by omega) (by omega) hbase (fun v' w' h1 h2 _ => ?_)
  · cases j with
    | zero => simp at hj; subst hj; simpa [Addr.add] using hq
    | succ j => simp at hj
  · simp at hu; subst hu; rfl
  · refine h v' w' ?_ ((Below.refl base w).grown h2 hbase (fun k hk => (World.ownsRow.lt hown k hk).1))
    unfold OwnZ
    simpa [flz] using h1

theorem OwnZ.openS {w : World} {base : Nat} {v : Value} {zs : List ByteArray} (h : OwnZ w base v zs) (hn : 1 ≤ zs.length) : ∃ g cap, v = .slice (some ⟨g, 0, none⟩) zs.length cap := by
  obtain ⟨h1, h2⟩ := h
  rcases h2 with ⟨_, h2⟩ | ⟨g, cap, cur, e, _⟩
  · omega
  · exact ⟨g, cap, e⟩
theorem OwnZ.cellAt {w : World} {base g n cap : Nat} {zs : List ByteArray} (h : OwnZ w base (.slice (some ⟨g, 0, none⟩) n cap) zs) (i : Nat) (hi : i < zs.length) : w.cell? ⟨g, i, none⟩ = some (.string (zs.getD i ⟨#[]⟩)) := by
  have h0 := h
  obtain ⟨h1, h2⟩ := h
  rcases h2 with ⟨h2, _⟩ | ⟨g', cap', cur, e, hg, hc, h3⟩
  · cases h2
  · cases e
    rw [World.ownsRow.cellAt h0 i (by omega)]
    simp [flz, hi, List.getD_eq_getElem?_getD]
theorem OwnZ.nil (w : World) (base : Nat) : OwnZ w base (.slice none 0 0) [] := ⟨rfl, .inl ⟨rfl, rfl⟩⟩

end Go.Proofs.YtncjkhdnpioinaaDoor

/- A text cut at a mark: the specification's loop. -/
namespace Go.Proofs.YtncjkhdnpioinaaDoor
open Go.RowKit
set_option linter.unusedVariables false

theorem by_at {s : ByteArray} {k : Nat} (h : k < s.size) (c : UInt8) : s.data.toList[k]? = some c ↔ byteAt s k = (c.toNat : Int) := by
  have hL : s.data.toList.length = s.size := Array.length_toList
  have hl : k < s.data.toList.length := by omega
  unfold byteAt
  rw [List.getD_eq_getElem?_getD, List.getElem?_eq_getElem hl]
  simp only [Option.getD_some, Option.some.injEq]
  constructor
  · intro h; rw [h]
  · intro h
    exact UInt8.toNat_inj.1 (by omega)
theorem OwnZ.lit1 (w : World) (base : Nat) (hb : base ≤ w.heap.size) (z : ByteArray) : OwnZ (w.alloc (.cells #[.string z] 9)) base (.slice (some ⟨w.heap.size, 0, none⟩) 1 1) [z] :=
  World.ownsRow_lit (w := w) (base := base) (e := 9) (size := 1) #[.string z] 1 hb (by decide) rfl
theorem cutZ_snoc (c : UInt8) (s : ByteArray) : ∃ zs z, cutZ c s = zs ++ [z] := by
  have h := cutZ_length c s
  have : cutZ c s ≠ [] := by intro e; rw [e] at h; simp at h
  exact ⟨_, _, (List.dropLast_concat_getLast this).symm⟩

set_option maxHeartbeats 1600000 in
set_option maxRecDepth 4000 in
theorem specCut_any (s : ByteArray) (c : UInt8) (m : Int) (hm : (c.toNat : Int) = m) (w : World) (hs : s.size ≤ 1048576) : Calls Tryd.prog 107 #[.string s, .int .u8 m] w fun e w' => ∃ v, e = .returned v ∧ OwnZ w' w.heap.size v (cutZ c s) ∧ Below w.heap.size w w' := by
  have Bw := Lib.hid (below_al1 w (.cells #[] 9))
  have O0 := Lib.hid (OwnZ.empty w w.heap.size (Nat.le_refl _))
  go_enter Tryd.func107, Tryd.ntmps107
  go_wp2
  go_loopw [5, 6, 7] (fun v f i wr => ∃ (v0 : Value) (k f' : Nat) (done : List ByteArray), v = v0 ∧ i = .int .i64 k ∧ f = .int .i64 f' ∧ k ≤ s.size + 1 ∧ f' ≤ k ∧ Hid (k ≤ s.size → CutAt c s k f' done) ∧ Hid (k = s.size + 1 → done = cutZ c s) ∧ Hid (done.length ≤ k) ∧ Hid (OwnZ wr w.heap.size v0 done) ∧ Hid (Below w.heap.size w wr)) (fun _ _ i _ => s.size + 2 - (intOf i).toNat)
  case atStart => exact ⟨_, 0, 0, [], rfl, rfl, rfl, Nat.zero_le _, Nat.le_refl _, Lib.hid (fun _ => CutAt.start c s), Lib.hid (fun h => by omega), Lib.hid (Nat.le_refl _), O0, Bw⟩
  case round =>
    obtain ⟨v, k, f, done, rfl, rfl, rfl, hk, hf, hc, he, hl, ho, hb⟩ := hrel
    by_cases hin : k ≤ s.size
    · have hC := Lib.hid (hc.out hin)
      have hdle : decide ((k : Int) ≤ (s.size : Int)) = true := decide_eq_true (by omega)
      clear hc he
      obtain ⟨x, hx⟩ : ∃ x, s.extract f k = x := ⟨_, rfl⟩
      have OL := Lib.hid (ho.out.al (.cells #[.string x] 9))
      have B2 := Lib.hid (hb.out.alloc (hb.out.size) (.cells #[.string x] 9))
      have CS : Hid ((wr.alloc (.cells #[.string x] 9)).cell? ⟨wr.heap.size, 0, none⟩ = some (.string x)) := Lib.hid ((OwnZ.lit1 wr w.heap.size (hb.out.size) x).cellAt 0 (by simp))
      have HL := Lib.hid hl.out
      by_cases hlt : k < s.size
      · have hbe := byteAt_eq s k hlt
        have hne : ((k : Int) == (s.size : Int)) = false := by simp; omega
        by_cases hm' : byteAt s k = m
        · have hq : (byteAt s k == m) = true := by simp [hm']
          have HN := Lib.hid (hC.out.hit hlt ((by_at hlt c).2 (by rw [hm, hm'])))
          rw [hx] at HN
          have HX := Lib.hid hx
          have H1 : Hid (done.length ≤ 1048576) := Lib.hid (by have := hl.out; omega)
          clear hx hm' hl hC
          go_wp2_with (first | (at_builtin; rw [HX.out]; refine wpList_appZ rfl _ _ rfl w.heap.size _ done rfl OL.out wr.heap.size 1 x rfl CS.out H1.out (B2.out.size) ?_; intro v' w' hO' hB'))
          have B3 := Lib.hid (B2.out.trans hB')
          have O3 := Lib.hid hO'
          clear hO' hB'
          go_wp2
          refine ⟨⟨_, k + 1, k + 1, _, rfl, by go_num, by go_num, by omega, Nat.le_refl _, Lib.hid (fun _ => HN.out), Lib.hid (fun h => by omega), Lib.hid (by have := HL.out; simp; omega), O3, B3⟩, ?_⟩
          simp [intOf]; omega
        · have hq : (byteAt s k == m) = false := by simp [hm']
          have HN := Lib.hid (hC.out.miss hlt (fun h => hm' (by rw [← hm]; exact (by_at hlt c).1 h)))
          clear hx hm' hl hC OL B2 CS
          go_wp2
          refine ⟨⟨_, k + 1, f, _, rfl, by go_num, rfl, by omega, by omega, Lib.hid (fun _ => HN.out), Lib.hid (fun h => by omega), Lib.hid (by have := HL.out; omega), ho, hb⟩, ?_⟩
          simp [intOf]; omega
      · have ek : k = s.size := by omega
        subst ek
        have hne : ((s.size : Int) == (s.size : Int)) = true := by simp
        have HN : Hid (done ++ [x] = cutZ c s) := Lib.hid (by
          have hC' := hC.out
          rw [hC'.last, ← hx])
        have HX := Lib.hid hx
        have H1 : Hid (done.length ≤ 1048576) := Lib.hid (by have := hl.out; omega)
        clear hx hl hC
        go_wp2_with (first | (at_builtin; rw [HX.out]; refine wpList_appZ rfl _ _ rfl w.heap.size _ done rfl OL.out wr.heap.size 1 x rfl CS.out H1.out (B2.out.size) ?_; intro v' w' hO' hB'))
        have B3 := Lib.hid (B2.out.trans hB')
        have O3 := Lib.hid hO'
        clear hO' hB'
        go_wp2
        refine ⟨⟨_, s.size + 1, s.size + 1, _, rfl, by go_num, by go_num, by omega, Nat.le_refl _, Lib.hid (fun h => by omega), Lib.hid (fun _ => HN.out), Lib.hid (by have := HL.out; simp; omega), O3, B3⟩, ?_⟩
        simp [intOf]
    · have hdle : decide ((k : Int) ≤ (s.size : Int)) = false := decide_eq_false (by omega)
      have HE := Lib.hid (he.out (by omega))
      have ho' := ho.out
      rw [HE.out] at ho'
      have HO := Lib.hid ho'
      clear hc he HE ho'
      go_wp2
      go_ret
      exact ⟨_, rfl, HO.out, hb.out⟩
end Go.Proofs.YtncjkhdnpioinaaDoor

/- A slice of 32-bit numbers, as a list of their bits. -/
namespace Go.Proofs.YtncjkhdnpioinaaDoor
open Go.RowKit

/-- a new row: the call hands back a slice that reads as zs, and nothing that was there has turned -/
def NewRow (zs : List Nat) (w : World) (e : Ending) (w' : World) : Prop := ∃ v, e = .returned v ∧ FRow w' v zs ∧ Below w.heap.size w w'

theorem Tryd.rowOf32 : (Tryd.prog.info? 46).map (fun i => (i.zero, i.size, i.bytes)) = some (some (.float .f32 0), 1, 4) := by kernel_rfl

def part (zs : List Nat) (k i : Nat) : Value := .float .f32 (if i < k then zs.getD i 0 else 0)

theorem row_of_part {wr : World} {b : Nat} {zs : List Nat} (h : wr.rowIs b 46 zs.length (part zs zs.length)) (hm : zs.length ≤ maxLen) : FRow wr (.slice (some ⟨b, 0, none⟩) zs.length zs.length) zs := by
  refine .inr ⟨b, 0, _, rfl, hm, fun i hi => ?_⟩
  have := h.cell hi
  rw [Nat.zero_add, this]
  simp [part, hi]

/-- .. in a block of its own, the first behind those that were there -/
def NewAt (zs : List Nat) (w : World) (e : Ending) (w' : World) : Prop :=
  e = .returned (.slice (some ⟨w.heap.size, 0, none⟩) zs.length zs.length) ∧ FRow w' (.slice (some ⟨w.heap.size, 0, none⟩) zs.length zs.length) zs ∧ Below w.heap.size w w' ∧ Cells w' w.heap.size (zs.map (.float .f32))

theorem cells_of_part {wr : World} {b : Nat} {zs : List Nat} (h : wr.rowIs b 46 zs.length (part zs zs.length)) (hb : b < wr.heap.size) : Cells wr b (zs.map (.float .f32)) := by
  refine ⟨fun i v hv => ?_, fun i => h.frozen i, hb⟩
  have hi : i < zs.length := by
    have := (List.getElem?_eq_some_iff.1 hv).1
    simpa using this
  rw [h.cell hi]
  simp [hi] at hv
  simp [part, hi, hv, List.getD_eq_getElem?_getD]

/-- two lists of numbers that are the same -/
def SameList (zs ys : List Nat) : Prop := zs.length = ys.length ∧ ∀ i, i < zs.length → cn .f32 (zs.getD i 0) = cn .f32 (ys.getD i 0)
theorem SameList.refl (zs : List Nat) : SameList zs zs := ⟨rfl, fun _ _ => rfl⟩

theorem FRow.empty {w : World} {v : Value} (h : FRow w v []) : ∃ a c, v = .slice a 0 c := by
  rcases h with ⟨h, _⟩ | ⟨b, off, cap, rfl, _⟩
  · exact h
  · exact ⟨_, _, rfl⟩

theorem eqF_empty (a a' : Option Addr) (c c' : Nat) (w : World) : Calls Tryd.prog 65 #[.slice a 0 c, .slice a' 0 c'] w (Yes w) := by
  go_enter Tryd.func65, Tryd.ntmps65
  go_wp2
  go_loop [5] (fun i => i = .int .i64 0) (fun _ => 0)
  case atStart => rfl
  case round =>
    obtain rfl := hrel
    go_wp2
    go_ret
    exact Yes.same

set_option maxHeartbeats 800000 in
theorem eqF_rows (zs ys : List Nat) (b off cap b' off' cap' : Nat) (w : World) (n : Nat) (hn : zs.length = n) (hm : n ≤ maxLen) (hs : ∀ i, i < n → cn .f32 (zs.getD i 0) = cn .f32 (ys.getD i 0))
    (hc : ∀ i, i < n → w.cell? ⟨b, off + i, none⟩ = some (.float .f32 (zs.getD i 0))) (hc' : ∀ i, i < n → w.cell? ⟨b', off' + i, none⟩ = some (.float .f32 (ys.getD i 0))) :
    Calls Tryd.prog 65 #[.slice (some ⟨b, off, none⟩) n cap, .slice (some ⟨b', off', none⟩) n cap'] w (Yes w) := by
  unfold maxLen at hm
  have Hs := Lib.hid hs
  have Hn := Lib.hid hn
  clear hs hn
  go_enter Tryd.func65, Tryd.ntmps65
  go_wp2
  go_loopw [5] (fun i wr => ∃ k q : Nat, k ≤ n ∧ i = .int .i64 k ∧ wr = w.drewN q) (fun i _ => n - (intOf i).toNat)
  case atStart => exact ⟨0, 0, Nat.zero_le _, rfl, rfl⟩
  case round =>
    obtain ⟨k, q, hk, rfl, rfl⟩ := hrel
    by_cases hlt : k < n
    · have h1 := hc k hlt
      have h2 := hc' k hlt
      have hz := Lib.hid (Hs.out k hlt)
      clear hc hc'
      have hi : (0 : Int) ≤ (k : Int) := by omega
      have hi' : (k : Int) < (n : Int) := by omega
      go_wp2
      refine wp_region_loose (fun _ _ v => v = .bool true) (by kernel_rfl) (by kernel_rfl) ?_
      (refine wpLoose_plain rfl (fun K hK => ?_); go_simp; refine hK _ ?_; clear hK K)
      (refine wpLoose_plain rfl (fun K hK => ?_); go_simp; refine hK _ ?_; clear hK K)
      (refine wpLoose_plain rfl (fun K hK => ?_); go_simp; refine hK _ ?_; clear hK K)
      (refine wpLoose_plain rfl (fun K hK => ?_); go_simp; refine hK _ ?_; clear hK K)
      (refine wpLoose_up rfl Tryd.underlying46 Tryd.underlying102 _ rfl _ rfl ?_; intro _ _)
      (refine wpLoose_plain rfl (fun K hK => ?_); go_simp; refine hK _ ?_; clear hK K)
      (refine wpLoose_plain rfl (fun K hK => ?_); go_simp; refine hK _ ?_; clear hK K)
      (refine wpLoose_plain rfl (fun K hK => ?_); go_simp; refine hK _ ?_; clear hK K)
      (refine wpLoose_plain rfl (fun K hK => ?_); go_simp; refine hK _ ?_; clear hK K)
      (refine wpLoose_up rfl Tryd.underlying46 Tryd.underlying102 _ rfl _ rfl ?_; intro _ _)
      rename_i r1 hu1 r2 hu2
      refine wpLoose_call rfl 77 #[.float .f64 r1, .float .f64 r2] (fun w1 => ?_) (fun w1 _ => ?_) ?_
      · go_simp
      · refine (same_end w1 hu1 hu2 (by simpa using hz.out)).mono ?_
        rintro e w2 ⟨rfl, m, rfl⟩
        exact ⟨_, rfl, rfl, m, rfl⟩
      rintro v rfl
      (refine wpLoose_plain rfl (fun K hK => ?_); go_simp; refine hK _ ?_; clear hK K)
      (refine wpLoose_nil ?_; rintro _ ⟨nq, rfl⟩)
      go_wp2
      go_roundw
      case rel => exact ⟨k + 1, _, by omega, by go_num, rfl⟩
      case measure => simp [intOf]; omega
    · clear hc hc'
      go_wp2
      go_ret
      exact Yes.drewN

/-- two slices of numbers that are the same, and slices of numbers alone -/
theorem eqF_any (v v' : Value) (zs ys : List Nat) (w : World) (h : FRow w v zs) (h' : FRow w v' ys) (hs : SameList zs ys) :
    Calls Tryd.prog 65 #[v, v'] w (Yes w) := by
  obtain ⟨hl, hs⟩ := hs
  by_cases h0 : zs.length = 0
  · obtain rfl : zs = [] := List.length_eq_zero_iff.1 h0
    obtain rfl : ys = [] := List.length_eq_zero_iff.1 hl.symm
    obtain ⟨a, c, rfl⟩ := h.empty
    obtain ⟨a', c', rfl⟩ := h'.empty
    exact eqF_empty a a' c c' w
  · rcases h with ⟨_, rfl⟩ | ⟨b, off, cap, rfl, hm, hc⟩
    · exact absurd rfl h0
    · rcases h' with ⟨_, rfl⟩ | ⟨b', off', cap', rfl, hm', hc'⟩
      · exact absurd hl h0
      · rw [← hl] at hc' ⊢
        exact eqF_rows zs ys b off cap b' off' cap' w zs.length rfl hm hs hc hc'
end Go.Proofs.YtncjkhdnpioinaaDoor

/- A slice of 32-bit numbers that a call makes itself, and appends to. -/
namespace Go.Proofs.YtncjkhdnpioinaaDoor
open Go.RowKit
set_option linter.unusedVariables false

theorem info32 : ∃ i, Tryd.prog.info? 46 = some i ∧ i.zero = some (.float .f32 0) ∧ i.size = 1 ∧ i.bytes = 4 := by
  have h := Tryd.rowOf32
  cases e : Tryd.prog.info? 46 with
  | none => rw [e] at h; simp at h
  | some i =>
    rw [e] at h
    simp only [Option.map_some, Option.some.injEq, Prod.mk.injEq] at h
    exact ⟨i, rfl, h.1, h.2.1, h.2.2⟩

/-- a slice of the call's own reads as zs -/
def Own (w : World) (base : Nat) (v : Value) (zs : List Nat) : Prop := w.ownsRow base 46 1 v zs.length (fl zs)
theorem Own.drewN {w : World} {base : Nat} {v : Value} {zs : List Nat} (h : Own w base v zs) (n : Nat) : Own (w.drewN n) base v zs := h
theorem Own.al {w : World} {base : Nat} {v : Value} {zs : List Nat} (h : Own w base v zs) (o : Obj) : Own (w.alloc o) base v zs := World.ownsRow.alloc h o
theorem Own.kept {w w' : World} {base : Nat} {v : Value} {zs : List Nat} (h : Own w base v zs) (hb : Below w.heap.size w w') : Own w' base v zs := by
  obtain ⟨h1, h2⟩ := h
  refine ⟨h1, ?_⟩
  rcases h2 with h2 | ⟨g, cap, cur, e, hg, hc, h3⟩
  · exact .inl h2
  · refine .inr ⟨g, cap, cur, e, hg, ?_, h3⟩
    have hlt : g < w.heap.size := by
      by_cases hx : g < w.heap.size
      · exact hx
      · rw [Array.getElem?_eq_none (by simpa using hx)] at hc
        cases hc
    rw [hb.block g hlt]
    exact hc
theorem Own.row {w : World} {base : Nat} {v : Value} {zs : List Nat} (h : Own w base v zs) (hm : zs.length ≤ 1048576) : FRow w v zs := by
  have h0 := h
  obtain ⟨h1, h2⟩ := h
  have hx : maxLen = 9223372036854775807 := rfl
  rcases h2 with ⟨rfl, hn⟩ | ⟨g, cap, cur, e, hg, hc, h3⟩
  · have : zs = [] := List.length_eq_zero_iff.1 hn
    subst this
    exact .inl ⟨⟨_, _, rfl⟩, rfl⟩
  · refine .inr ⟨g, 0, cap, e, by omega, fun i hi => ?_⟩
    subst e
    rw [Nat.zero_add, World.ownsRow.cellAt h0 i (by omega)]
    simp [fl, hi, List.getD_eq_getElem?_getD]
theorem Own.empty (w : World) (base : Nat) (hb : base ≤ w.heap.size) : Own (w.alloc (.cells #[] 46)) base (.slice (some ⟨w.heap.size, 0, none⟩) 0 0) [] :=
  World.ownsRow_lit (w := w) (base := base) (e := 46) (size := 1) #[] 0 hb (by decide) rfl

theorem wpList_app32 {ops : Array Oper} {rest : List Oper} {o : Oper} {a : Act} {Q : Exit → Act → World → Prop} {w : World} (hgd : o.guard = none) (s x : Operand)
    (ho : o.op = .call { callee := .builtin .append, args := #[s, x], argTypes := #[39, 39] })
    (base : Nat) (v : Value) (zs : List Nat) (hs : a.eval s = v) (hown : Own w base v zs) (q z c : Nat) (hx : a.eval x = .slice (some ⟨q, 0, none⟩) 1 c) (hq : w.cell? ⟨q, 0, none⟩ = some (.float .f32 z))
    (hk : zs.length ≤ 1048576) (hbase : base ≤ w.heap.size)
    (h : ∀ v' w', Own w' base v' (zs ++ [z]) → Below base w w' → wpList Tryd.prog ops Q rest (a.put o.dst v') w') : wpList Tryd.prog ops Q (o :: rest) a w := by
  obtain ⟨i, hi, hz, hsz, hby⟩ := info32
  have hm : maxLen = 9223372036854775807 := rfl
  refine wpList_append_own w hgd s x _ ho base 46 i (.float .f32 0) 1 4 Tryd.underlying39 hi hz hsz hby rfl (by decide) v zs.length (fl zs) hs hown ⟨q, 0, none⟩ 1 c [.float .f32 z] hx rfl (fun j u hj => ?_) (fun u hu => ?_) (by omega) (by omega) hbase (fun v' w' h1 h2 _ => ?_)
  · cases j with
    | zero => simp at hj; subst hj; simpa [Addr.add] using hq
    | succ j => simp at hj
  · simp at hu; subst hu; rfl
  · refine h v' w' ?_ ((Below.refl base w).grown h2 hbase (fun k hk => (World.ownsRow.lt hown k hk).1))
    unfold Own
    simpa [fl] using h1
end Go.Proofs.YtncjkhdnpioinaaDoor

/- Only one block has turned; the laws' marks as numbers. -/
namespace Go.Proofs.YtncjkhdnpioinaaDoor
open Go.RowKit
set_option linter.unusedVariables false

/-- only block g has turned -/
structure Onl (g : Nat) (w w' : World) : Prop where
  os : w'.os = w.os
  tape : w'.tape = w.tape
  output : w'.output = w.output
  size : w'.heap.size = w.heap.size
  block : ∀ k, k ≠ g → w'.heap[k]? = w.heap[k]?
theorem Onl.refl (g : Nat) (w : World) : Onl g w w := ⟨rfl, rfl, rfl, rfl, fun _ _ => rfl⟩
theorem Onl.trans {g : Nat} {a b c : World} (h : Onl g a b) (k : Onl g b c) : Onl g a c :=
  ⟨k.os.trans h.os, k.tape.trans h.tape, k.output.trans h.output, k.size.trans h.size, fun j hj => (k.block j hj).trans (h.block j hj)⟩
theorem Onl.setCell {g : Nat} {a w : World} (h : Onl g a w) (i : Nat) (u : Value) : Onl g a (w.setCell ⟨g, i, none⟩ u) := by
  have hb := (Below.refl 0 w).setCell (p := ⟨g, i, none⟩) (Nat.zero_le _) u
  exact ⟨hb.os.trans h.os, hb.tape.trans h.tape, hb.output.trans h.output, (World.size_setCell ..).trans h.size, fun k hk => (Below.heap_setCell w ⟨g, i, none⟩ u k hk).trans (h.block k hk)⟩
theorem Onl.drewN {g n : Nat} {a w : World} (h : Onl g a w) : Onl g a (w.drewN n) := ⟨h.os, h.tape, h.output, h.size, h.block⟩
theorem Onl.below {g B : Nat} {a w : World} (h : Onl g a w) (hB : B ≤ g) : Below B a w :=
  ⟨h.os, h.tape, h.output, Nat.le_of_eq h.size.symm, fun k hk => h.block k (by omega)⟩

/-- the number k, as a 32-bit number -/
def fb (k : Nat) : Nat := floatOfInt .f32 (k : Int)
theorem fb_self (k : Nat) (h : k < 500) : (FloatKind.f32.format.order (fb k) (fb k) == some .eq) = true := by
  have : ∀ k, k < 500 → (FloatKind.f32.format.order (fb k) (fb k) == some .eq) = true := by decide +kernel
  exact this k h
theorem rowIs_below {w w' : World} {b n : Nat} {t : TypeId} {f : Nat → Value} (h : w.rowIs b t n f) (hb : Below w.heap.size w w') : w'.rowIs b t n f := by
  have hl := h.lt
  unfold World.rowIs at *
  rw [hb.block b hl]
  exact h
theorem rowIs_far {w : World} {b n q i : Nat} {t : TypeId} {f : Nat → Value} {u : Value} (h : w.rowIs b t n f) (hq : b ≠ q) : (w.setCell ⟨q, i, none⟩ u).rowIs b t n f := by
  unfold World.rowIs at *
  rw [Below.heap_setCell w ⟨q, i, none⟩ u b hq]
  exact h

/-- of what was there, only blocks in S have turned -/
structure Tur (S : Nat → Prop) (w w' : World) : Prop where
  os : w'.os = w.os
  tape : w'.tape = w.tape
  output : w'.output = w.output
  size : w.heap.size ≤ w'.heap.size
  block : ∀ k, k < w.heap.size → ¬ S k → w'.heap[k]? = w.heap[k]?
theorem Tur.trans {S : Nat → Prop} {a b c : World} (h : Tur S a b) (k : Tur S b c) : Tur S a c :=
  ⟨k.os.trans h.os, k.tape.trans h.tape, k.output.trans h.output, Nat.le_trans h.size k.size, fun j hj hs => (k.block j (Nat.lt_of_lt_of_le hj h.size) hs).trans (h.block j hj hs)⟩
theorem Tur.of_below {S : Nat → Prop} {w w' : World} (h : Below w.heap.size w w') : Tur S w w' := ⟨h.os, h.tape, h.output, h.size, fun k hk _ => h.block k hk⟩
theorem Tur.of_onl {S : Nat → Prop} {g : Nat} {w w' : World} (h : Onl g w w') (hg : S g) : Tur S w w' :=
  ⟨h.os, h.tape, h.output, Nat.le_of_eq h.size.symm, fun k _ hs => h.block k (fun e => hs (by rw [e]; exact hg))⟩
theorem Tur.below {S : Nat → Prop} {B : Nat} {w w' : World} (h : Tur S w w') (hB : ∀ k, S k → B ≤ k) (hs : B ≤ w.heap.size) : Below B w w' :=
  ⟨h.os, h.tape, h.output, h.size, fun k hk => h.block k (by omega) (fun hS => by have := hB k hS; omega)⟩
theorem Tur.cells {S : Nat → Prop} {w w' : World} {p : Nat} {vs : List Value} (h : Tur S w w') (hc : Cells w p vs) (hp : ¬ S p) : Cells w' p vs :=
  ⟨fun i v hv => (World.cell?_of_block (w := w) (h.block p hc.lt hp)).trans (hc.1 i v hv), fun i => (World.frozen?_of_block (w := w) (h.block p hc.lt hp)).trans (hc.2.1 i), Nat.lt_of_lt_of_le hc.lt h.size⟩
theorem Tur.row {S : Nat → Prop} {w w' : World} {b n : Nat} {t : TypeId} {f : Nat → Value} (h : Tur S w w') (hr : w.rowIs b t n f) (hb : ¬ S b) : w'.rowIs b t n f := by
  have hl := hr.lt
  unfold World.rowIs at *
  rw [h.block b hl hb]
  exact hr

end Go.Proofs.YtncjkhdnpioinaaDoor

/- The laws' marks on lists of any length, and lists that a call made: a part of a block of its own. -/
namespace Go.Proofs.YtncjkhdnpioinaaDoor
open Go.RowKit
set_option linter.unusedVariables false

/-- from cell o on, block g holds the numbers zs, and may be written -/
def RowF (w : World) (g o : Nat) (zs : List Nat) : Prop := ∃ c : Array Value, w.heap[g]? = some (.cells c 46 (0, 0)) ∧ ∀ i, i < zs.length → c[o + i]? = some (.float .f32 (zs.getD i 0))
theorem RowF.cell {w : World} {g o i : Nat} {zs : List Nat} (h : RowF w g o zs) (hi : i < zs.length) : w.cell? ⟨g, o + i, none⟩ = some (.float .f32 (zs.getD i 0)) := by
  obtain ⟨c, hb, hc⟩ := h
  simp [World.cell?, hb, hc i hi]
theorem RowF.frozen {w : World} {g o : Nat} {zs : List Nat} (h : RowF w g o zs) (i : Nat) : w.frozen? ⟨g, i, none⟩ = false := by
  obtain ⟨c, hb, _⟩ := h
  simp [World.frozen?, hb]
theorem RowF.lt {w : World} {g o : Nat} {zs : List Nat} (h : RowF w g o zs) : g < w.heap.size := by
  obtain ⟨c, hb, _⟩ := h
  exact (Array.getElem?_eq_some_iff.1 hb).1
theorem RowF.of_block {w w' : World} {g o : Nat} {zs : List Nat} (h : RowF w g o zs) (e : w'.heap[g]? = w.heap[g]?) : RowF w' g o zs := by
  obtain ⟨c, hb, hc⟩ := h
  exact ⟨c, e.trans hb, hc⟩
theorem RowF.set {w : World} {g o : Nat} {zs : List Nat} (h : RowF w g o zs) (j x : Nat) (hj : j < zs.length) : RowF (w.setCell ⟨g, o + j, none⟩ (.float .f32 x)) g o (zs.set j x) := by
  obtain ⟨c, hb, hc⟩ := h
  refine ⟨c.setIfInBounds (o + j) (.float .f32 x), by simp [World.setCell, Array.getElem?_modify, hb], fun i hi => ?_⟩
  have hi' : i < zs.length := by simpa using hi
  rw [Array.getElem?_setIfInBounds]
  by_cases e : i = j
  · subst e
    have hlt : o + i < c.size := (Array.getElem?_eq_some_iff.1 (hc i hi')).1
    simp [hlt, hj, List.getD_eq_getElem?_getD]
  · rw [if_neg (by omega), hc i hi']
    simp [List.getD_eq_getElem?_getD, List.getElem?_set_ne (Ne.symm e)]
theorem RowF.of_row {w : World} {g o N : Nat} {f : Nat → Nat} {zs : List Nat} (h : w.rowIs g 46 N (fun i => .float .f32 (f i))) (ho : o + zs.length ≤ N) (hf : ∀ i, i < zs.length → f (o + i) = zs.getD i 0) : RowF w g o zs := by
  obtain ⟨c, hb, hn, hc⟩ := h
  exact ⟨c, hb, fun i hi => by simpa only [hf i hi] using hc (o + i) (by omega)⟩

theorem markL_any (g o n k c : Nat) (zs : List Nat) (w : World) (hr : RowF w g o zs) (hz : zs.length = n) (hn : n ≤ 1048576) (hk : k ≤ 1048576) :
    Calls Tryd.prog 66 #[.slice (some ⟨g, o, none⟩) n c, .int .i64 k] w fun e w' => e = .returned (.int .i64 ((k + n : Nat) : Int)) ∧ (∃ ys : List Nat, ys.length = n ∧ (∀ i, i < n → ys.getD i 0 = fb (k + i)) ∧ RowF w' g o ys) ∧ Onl g w w' := by
  have HR : Hid (∃ ys : List Nat, ys.length = n ∧ (∀ i, i < 0 → ys.getD i 0 = fb (k + i)) ∧ RowF w g o ys) := Lib.hid ⟨zs, hz, fun i hi => absurd hi (by omega), hr⟩
  clear hr hz
  go_enter Tryd.func66, Tryd.ntmps66
  go_wp2
  go_loopw [1, 5] (fun q i wr => ∃ j : Nat, j ≤ n ∧ i = .int .i64 j ∧ q = .int .i64 ((k + j : Nat) : Int) ∧ Hid (∃ ys : List Nat, ys.length = n ∧ (∀ i, i < j → ys.getD i 0 = fb (k + i)) ∧ RowF wr g o ys) ∧ Hid (Onl g w wr)) (fun _ i _ => n - (intOf i).toNat)
  case atStart => exact ⟨0, Nat.zero_le _, rfl, rfl, HR, Lib.hid (Onl.refl g w)⟩
  case round =>
    obtain ⟨j, hj, rfl, rfl, hrow, hon⟩ := hrel
    by_cases hlt : j < n
    · obtain ⟨ys, hy, hm, C⟩ := hrow.out
      have e3 : wr.cell? ⟨g, o + j, none⟩ = some (.float .f32 (ys.getD j 0)) := C.cell (by omega)
      have e4 : wr.frozen? ⟨g, o + j, none⟩ = false := C.frozen _
      have C := Lib.hid C
      have HY := Lib.hid hy
      have HM := Lib.hid hm
      clear hrow hy hm
      generalize ys.getD j 0 = old at *
      have hi : (0 : Int) ≤ (j : Int) := by omega
      have hi' : (j : Int) < (n : Int) := by omega
      go_wp2
      go_roundw
      case rel =>
        refine ⟨j + 1, by omega, by go_num, by go_num, Lib.hid ⟨ys.set j (fb (k + j)), by simpa using HY.out, fun i hi => ?_, ?_⟩, Lib.hid (Onl.setCell hon.out _ _)⟩
        · by_cases e : i = j
          · subst e
            have := HY.out
            simp [List.getD_eq_getElem?_getD, show i < ys.length by omega]
          · have := HM.out i (by omega)
            rw [← this]
            simp [List.getD_eq_getElem?_getD, List.getElem?_set_ne (Ne.symm e)]
        · have := C.out.set j (fb (k + j)) (by have := HY.out; omega)
          unfold fb at this ⊢
          simpa using this
      case measure => simp [intOf]; omega
    · have e := Lib.hid (show j = n by omega)
      go_wp2
      go_ret
      have := e.out
      subst this
      exact ⟨rfl, hrow.out, hon.out⟩

theorem heldL_any (g o n k c : Nat) (zs : List Nat) (w : World) (hr : RowF w g o zs) (hz : zs.length = n) (hk : k + n ≤ 499) (hf : ∀ i, i < n → zs.getD i 0 = fb (k + i)) :
    Calls Tryd.prog 67 #[.slice (some ⟨g, o, none⟩) n c, .int .i64 k] w fun e w' => e = .returned (.int .i64 ((k + n : Nat) : Int)) ∧ w = w' := by
  have HC : Hid (∀ i, i < n → w.cell? ⟨g, o + i, none⟩ = some (.float .f32 (fb (k + i)))) := Lib.hid (fun i hi => by rw [hr.cell (by omega), hf i hi])
  clear hr hz hf
  go_enter Tryd.func67, Tryd.ntmps67
  go_wp2
  go_loop [1, 5] (fun q i => ∃ j : Nat, j ≤ n ∧ i = .int .i64 j ∧ q = .int .i64 ((k + j : Nat) : Int)) (fun _ i => n - (intOf i).toNat)
  case atStart => exact ⟨0, Nat.zero_le _, rfl, rfl⟩
  case round =>
    obtain ⟨j, hj, rfl, rfl⟩ := hrel
    by_cases hlt : j < n
    · have z0 := HC.out j hlt
      have es := fb_self (k + j) (by omega)
      have en : (FloatKind.f32.format.order (fb (k + j)) (fb (k + j)) != some .eq) = false := by simpa using es
      unfold fb at z0 es en
      rw [Int.natCast_add] at z0 es en
      have hi : (0 : Int) ≤ (j : Int) := by omega
      have hi' : (j : Int) < (n : Int) := by omega
      go_wp2
      go_round
      case rel => exact ⟨j + 1, by omega, by go_num, by go_num⟩
      case measure => simp [intOf]; omega
    · have e := Lib.hid (show j = n by omega)
      go_wp2
      go_ret
      have := e.out
      subst this
      exact ⟨rfl, rfl⟩

theorem mark_mt (a : Option Addr) (c k : Nat) (w : World) (hk : k ≤ 400) : Calls Tryd.prog 66 #[.slice a 0 c, .int .i64 k] w fun e w' => e = .returned (.int .i64 k) ∧ w = w' := by
  go_enter Tryd.func66, Tryd.ntmps66
  go_wp2
  go_loop [1, 5] (fun q i => i = .int .i64 0 ∧ q = .int .i64 k) (fun _ _ => 0)
  case atStart => exact ⟨rfl, rfl⟩
  case round =>
    obtain ⟨rfl, rfl⟩ := hrel
    go_wp2
    go_ret
    exact ⟨rfl, rfl⟩
theorem held_mt (a : Option Addr) (c k : Nat) (w : World) (hk : k ≤ 400) : Calls Tryd.prog 67 #[.slice a 0 c, .int .i64 k] w fun e w' => e = .returned (.int .i64 k) ∧ w = w' := by
  go_enter Tryd.func67, Tryd.ntmps67
  go_wp2
  go_loop [1, 5] (fun q i => i = .int .i64 0 ∧ q = .int .i64 k) (fun _ _ => 0)
  case atStart => exact ⟨rfl, rfl⟩
  case round =>
    obtain ⟨rfl, rfl⟩ := hrel
    go_wp2
    go_ret
    exact ⟨rfl, rfl⟩

/-- the value v is a slice that reads as zs and lies in a block made since h: empty, or a part of such a block -/
def ORow (h : Nat) (w : World) (v : Value) (zs : List Nat) : Prop :=
  ((∃ a c, v = .slice a 0 c) ∧ zs = []) ∨ ∃ g o c, v = .slice (some ⟨g, o, none⟩) zs.length c ∧ h ≤ g ∧ RowF w g o zs

theorem ORow.frow {h : Nat} {w : World} {v : Value} {zs : List Nat} (H : ORow h w v zs) (hm : zs.length ≤ maxLen) : FRow w v zs := by
  rcases H with H | ⟨g, o, c, rfl, _, hr⟩
  · exact .inl H
  · exact .inr ⟨g, o, c, rfl, hm, fun i hi => hr.cell hi⟩
theorem ORow.shape {h : Nat} {w : World} {v : Value} {zs : List Nat} (H : ORow h w v zs) : ∃ a cap, v = .slice a zs.length cap := by
  rcases H with ⟨⟨a, c, rfl⟩, rfl⟩ | ⟨g, o, c, rfl, _⟩
  · exact ⟨_, _, rfl⟩
  · exact ⟨_, _, rfl⟩
theorem ORow.kept {h : Nat} {w w' : World} {v : Value} {zs : List Nat} (H : ORow h w v zs) (hb : Below w.heap.size w w') : ORow h w' v zs := by
  rcases H with H | ⟨g, o, c, rfl, hg, hr⟩
  · exact .inl H
  · exact .inr ⟨g, o, c, rfl, hg, hr.of_block (hb.block g hr.lt)⟩
theorem ORow.far {h p : Nat} {w w' : World} {v : Value} {zs : List Nat} (H : ORow h w v zs) (hb : Onl p w w') (hp : p < h) : ORow h w' v zs := by
  rcases H with H | ⟨g, o, c, rfl, hg, hr⟩
  · exact .inl H
  · exact .inr ⟨g, o, c, rfl, hg, hr.of_block (hb.block g (by omega))⟩
theorem ORow.mono {h h' : Nat} {w : World} {v : Value} {zs : List Nat} (H : ORow h w v zs) (hh : h' ≤ h) : ORow h' w v zs := by
  rcases H with H | ⟨g, o, c, rfl, hg, hr⟩
  · exact .inl H
  · exact .inr ⟨g, o, c, rfl, Nat.le_trans hh hg, hr⟩
theorem ORow.nil {h : Nat} {w : World} : ORow h w (.slice none 0 0) [] := .inl ⟨⟨_, _, rfl⟩, rfl⟩
theorem Own.orow {w : World} {base : Nat} {v : Value} {zs : List Nat} (h : Own w base v zs) : ORow base w v zs := by
  obtain ⟨h1, h2⟩ := h
  rcases h2 with ⟨rfl, hn⟩ | ⟨g, cap, cur, e, hg, hc, _, _, hs, h3⟩
  · have : zs = [] := List.length_eq_zero_iff.1 hn
    subst this
    exact .nil
  · refine .inr ⟨g, 0, cap, e, hg, cur, hc, fun i hi => ?_⟩
    have : (fl zs)[i]? = some (.float .f32 (zs.getD i 0)) := by simp [fl, hi, List.getD_eq_getElem?_getD]
    rw [← h3, List.getElem?_take, if_pos (by omega)] at this
    rw [Nat.zero_add]
    simpa using this

/-- the marks 1, 2 and so on -/
def mks (n : Nat) : List Nat := (List.range n).map fun i => fb (1 + i)
theorem mks_length (n : Nat) : (mks n).length = n := by simp [mks]
theorem mks_getD (n i : Nat) (hi : i < n) : (mks n).getD i 0 = fb (1 + i) := by simp [mks, hi, List.getD_eq_getElem?_getD]
theorem mks_of {n : Nat} {ys : List Nat} (hl : ys.length = n) (h : ∀ i, i < n → ys.getD i 0 = fb (1 + i)) : ys = mks n := by
  refine List.ext_getElem (by rw [hl, mks_length]) fun i h1 h2 => ?_
  have := h i (by omega)
  simp only [mks, List.getElem_map, List.getElem_range]
  rw [← this]
  simp [List.getD_eq_getElem?_getD, h1]

theorem markO {h : Nat} {v : Value} {zs : List Nat} {w : World} (H : ORow h w v zs) (hl : zs.length ≤ 400) :
    Calls Tryd.prog 66 #[v, .int .i64 1] w fun e w' => e = .returned (.int .i64 ((1 + zs.length : Nat) : Int)) ∧ ORow h w' v (mks zs.length) ∧ (h ≤ w.heap.size → Below h w w') := by
  rcases H with ⟨⟨a, c, rfl⟩, rfl⟩ | ⟨g, o, c, rfl, hg, hr⟩
  · refine (mark_mt a c 1 w (by omega)).mono ?_
    rintro e w' ⟨rfl, rfl⟩
    exact ⟨rfl, .inl ⟨⟨_, _, rfl⟩, rfl⟩, fun _ => Below.refl _ _⟩
  · refine (markL_any g o zs.length 1 c zs w hr rfl (by omega) (by omega)).mono ?_
    rintro e w' ⟨rfl, ⟨ys, hy, hf, hr'⟩, hon⟩
    rw [mks_of hy hf] at hr'
    exact ⟨rfl, .inr ⟨g, o, c, by rw [mks_length], hg, hr'⟩, fun _ => hon.below hg⟩

theorem heldO {h n : Nat} {v : Value} {w : World} (H : ORow h w v (mks n)) (hl : n ≤ 400) :
    Calls Tryd.prog 67 #[v, .int .i64 1] w fun e w' => e = .returned (.int .i64 ((1 + n : Nat) : Int)) ∧ w = w' := by
  rcases H with ⟨⟨a, c, rfl⟩, hz⟩ | ⟨g, o, c, rfl, hg, hr⟩
  · have : n = 0 := by have := congrArg List.length hz; rw [mks_length] at this; simpa using this
    subst this
    exact held_mt a c 1 w (by omega)
  · rw [mks_length]
    exact heldL_any g o n 1 c (mks n) w hr (mks_length n) (by omega) (fun i hi => mks_getD _ _ hi)

/-- marks over a copy of an argument: only its block turns -/
theorem markX (p : Nat) (zs : List Nat) (w : World) (H : Cells w p (fl zs)) (hl : zs.length ≤ 1048576) :
    Calls Tryd.prog 66 #[sl p zs, .int .i64 1] w fun e w' => e = .returned (.int .i64 ((1 + zs.length : Nat) : Int)) ∧ Onl p w w' := by
  have HC : Hid (∃ ys : List Nat, ys.length = zs.length ∧ Cells w p (fl ys)) := Lib.hid ⟨zs, rfl, H⟩
  clear H
  unfold sl
  generalize zs.length = n at *
  go_enter Tryd.func66, Tryd.ntmps66
  go_wp2
  go_loopw [1, 5] (fun q i wr => ∃ j : Nat, j ≤ n ∧ i = .int .i64 j ∧ q = .int .i64 ((1 + j : Nat) : Int) ∧ Hid (∃ ys : List Nat, ys.length = n ∧ Cells wr p (fl ys)) ∧ Hid (Onl p w wr)) (fun _ i _ => n - (intOf i).toNat)
  case atStart => exact ⟨0, Nat.zero_le _, rfl, rfl, HC, Lib.hid (Onl.refl p w)⟩
  case round =>
    obtain ⟨j, hj, rfl, rfl, hrow, hon⟩ := hrel
    by_cases hlt : j < n
    · obtain ⟨ys, hy, C⟩ := hrow.out
      have hjy : j < ys.length := by omega
      have e3 : wr.cell? ⟨p, j, none⟩ = some (.float .f32 (ys.getD j 0)) := C.at j (by simp [fl, hjy, List.getD_eq_getElem?_getD])
      have e4 : wr.frozen? ⟨p, j, none⟩ = false := C.fz j
      have C := Lib.hid C
      have HY := Lib.hid hy
      clear hrow hy
      generalize ys.getD j 0 = old at *
      have hi : (0 : Int) ≤ (j : Int) := by omega
      have hi' : (j : Int) < (n : Int) := by omega
      go_wp2
      go_roundw
      case rel =>
        refine ⟨j + 1, by omega, by go_num, by go_num, Lib.hid ⟨ys.set j (floatOfInt .f32 ((1 + j : Nat) : Int)), by simpa using HY.out, ?_⟩, Lib.hid (Onl.setCell hon.out _ _)⟩
        have := C.out.set j (by simpa [fl] using hjy) (.float .f32 (floatOfInt .f32 ((1 + j : Nat) : Int)))
        rw [show fl (ys.set j (floatOfInt .f32 ((1 + j : Nat) : Int))) = (fl ys).set j (.float .f32 (floatOfInt .f32 ((1 + j : Nat) : Int))) from by simp [fl, List.map_set]]
        simpa using this
      case measure => simp [intOf]; omega
    · have e := Lib.hid (show j = n by omega)
      go_wp2
      go_ret
      have := e.out
      subst this
      exact ⟨rfl, hon.out⟩
end Go.Proofs.YtncjkhdnpioinaaDoor

/- Numbers read from a text: the specification. -/
namespace Go.Proofs.YtncjkhdnpioinaaDoor
open Go.RowKit
set_option linter.unusedVariables false

theorem wpList_app32K {ops : Array Oper} {rest : List Oper} {o : Oper} {a : Act} {Q : Exit → Act → World → Prop} {w : World} (hgd : o.guard = none) (s x : Operand)
    (ho : o.op = .call { callee := .builtin .append, args := #[s, x], argTypes := #[39, 39] })
    (base : Nat) (v : Value) (zs : List Nat) (hs : a.eval s = v) (hown : Own w base v zs) (q c : Nat) (z : Nat) (hx : a.eval x = .slice (some ⟨q, 0, none⟩) 1 c) (hq : w.cell? ⟨q, 0, none⟩ = some (.float .f32 z))
    (hk : zs.length ≤ 1048576) (hbase : base ≤ w.heap.size)
    (h : ∀ v' w', Own w' base v' (zs ++ [z]) → Below base w w' → (∀ (b : Nat) (c : Array Value) f, w.heap[b]? = some (Obj.cells c 9 f) → w'.heap[b]? = w.heap[b]?) → wpList Tryd.prog ops Q rest (a.put o.dst v') w') : wpList Tryd.prog ops Q (o :: rest) a w := by
  obtain ⟨i, hi, hz, hsz, hby⟩ := info32
  have hm : maxLen = 9223372036854775807 := rfl
  refine wpList_append_own w hgd s x _ ho base 46 i (.float .f32 0) 1 4 Tryd.underlying39 hi hz hsz hby rfl (by decide) v zs.length (fl zs) hs hown ⟨q, 0, none⟩ 1 c [.float .f32 z] hx rfl (fun j u hj => ?_) (fun u hu => ?_) (by omega) (by omega) hbase (fun v' w' h1 h2 _ => ?_)
  · cases j with
    | zero => simp at hj; subst hj; simpa [Addr.add] using hq
    | succ j => simp at hj
  · simp at hu; subst hu; rfl
  · refine h v' w' ?_ ((Below.refl base w).grown h2 hbase (fun k hk => (World.ownsRow.lt hown k hk).1)) ?_
    · unfold Own
      simpa [fl] using h1
    · intro b c f hb
      refine h2.block b (Array.getElem?_eq_some_iff.1 hb).1 ?_
      obtain ⟨_, h4⟩ := hown
      rcases h4 with ⟨rfl, _⟩ | ⟨g, cap, cur, rfl, _, hc, _⟩
      · simp [Value.ownBlock]
      · intro e
        have : b = g := by simpa [Value.ownBlock] using e
        subst this
        rw [hc] at hb
        simp at hb
theorem take_map_snocN {ps : List ByteArray} {k : Nat} (h : k < ps.length) : (ps.take (k + 1)).map rnV = (ps.take k).map rnV ++ [rnV (ps.getD k ⟨#[]⟩)] := by
  rw [List.take_add_one, List.getElem?_eq_getElem h, List.map_append, List.getD_eq_getElem?_getD, List.getElem?_eq_getElem h]
  rfl
/-- whether a text is that of a list of numbers, and the list -/
def nlOk (s : ByteArray) : Bool := isNone s || (decide ((cutZ 44 s).length ≤ 256) && (cutZ 44 s).all rnOk)
def nlL (s : ByteArray) : List Nat := if isNone s then [] else if nlOk s then (cutZ 44 s).map rnV else []
theorem nl_none {s : ByteArray} (h : isNone s = true) : nlOk s = true ∧ nlL s = [] := by
  unfold nlOk nlL; rw [h]; exact ⟨rfl, rfl⟩
theorem nl_many {s : ByteArray} (h : isNone s = false) (hm : ¬ (cutZ 44 s).length ≤ 256) : nlOk s = false ∧ nlL s = [] := by
  have e : nlOk s = false := by unfold nlOk; rw [h, decide_eq_false hm]; rfl
  exact ⟨e, by unfold nlL; rw [h, e]; rfl⟩
theorem nl_bad {s : ByteArray} (h : isNone s = false) {k : Nat} (hk : k < (cutZ 44 s).length) (hb : rnOk ((cutZ 44 s).getD k ⟨#[]⟩) = false) : nlOk s = false ∧ nlL s = [] := by
  have e : nlOk s = false := by
    unfold nlOk
    have : (cutZ 44 s).all rnOk = false := by
      rw [List.all_eq_false]
      refine ⟨_, List.getElem_mem hk, ?_⟩
      rw [List.getD_eq_getElem?_getD, List.getElem?_eq_getElem hk] at hb
      simpa using hb
    rw [h, this, Bool.and_false]; rfl
  exact ⟨e, by unfold nlL; rw [h, e]; rfl⟩
theorem nl_good {s : ByteArray} (h : isNone s = false) (hm : (cutZ 44 s).length ≤ 256) (ha : ∀ k, k < (cutZ 44 s).length → rnOk ((cutZ 44 s).getD k ⟨#[]⟩) = true) : nlOk s = true ∧ nlL s = (cutZ 44 s).map rnV := by
  have e : nlOk s = true := by
    unfold nlOk
    have : (cutZ 44 s).all rnOk = true := by
      rw [List.all_eq_true]
      intro x hx
      obtain ⟨k, hk, rfl⟩ := List.getElem_of_mem hx
      have := ha k hk
      rw [List.getD_eq_getElem?_getD, List.getElem?_eq_getElem hk] at this
      exact this
    rw [h, this, decide_eq_true hm]; rfl
  exact ⟨e, by unfold nlL; rw [h, e]; rfl⟩
theorem nlL_le (s : ByteArray) : (nlL s).length ≤ 256 := by
  unfold nlL
  split
  · simp
  · split
    · next h1 h2 =>
      unfold nlOk at h2
      rw [show isNone s = false by simpa using h1] at h2
      simp only [Bool.false_or, Bool.and_eq_true, decide_eq_true_eq] at h2
      simpa using h2.1
    · simp
def RnL (s : ByteArray) (w : World) (e : Ending) (w' : World) : Prop := ∃ v, e = .returned (.tuple #[v, .bool (nlOk s)]) ∧ FRow w' v (nlL s) ∧ Below w.heap.size w w'
/-- .. in memory of its own -/
def RnLo (s : ByteArray) (w : World) (e : Ending) (w' : World) : Prop := ∃ v, e = .returned (.tuple #[v, .bool (nlOk s)]) ∧ ORow w.heap.size w' v (nlL s) ∧ Below w.heap.size w w'

set_option maxHeartbeats 1600000 in
set_option maxRecDepth 4000 in
theorem specNlo_any (s : ByteArray) (w : World) (hs : s.size ≤ 1048576) : Calls Tryd.prog 119 #[.string s] w (RnLo s w) := by
  have Bw := Lib.hid (below_al1 w (.cells #[] 46))
  have O0 := Lib.hid (Own.empty w w.heap.size (Nat.le_refl _))
  cases hn : isNone s with
  | true =>
    have HP : Hid (∀ v w', ORow w.heap.size w' v [] → Below w.heap.size w w' → RnLo s w (.returned (.tuple #[v, .bool true])) w') := Lib.hid (fun v w' hr hb => ⟨v, by rw [(nl_none hn).1], by rw [(nl_none hn).2]; exact hr, hb⟩)
    have q : (s.toList == [110, 111, 110, 101]) = true := hn
    clear hn
    go_enter Tryd.func119, Tryd.ntmps119
    go_wp2
    go_ret2
    exact HP.out _ _ O0.out.orow Bw.out
  | false =>
    have q : (s.toList == [110, 111, 110, 101]) = false := hn
    obtain ⟨ps, hps⟩ : ∃ ps, cutZ 44 s = ps := ⟨_, rfl⟩
    have HC := Lib.hid (fun w1 => specCut_any s 44 44 rfl w1 hs)
    have HL := Lib.hid (show ps.length ≤ s.size + 1 by rw [← hps]; exact cutZ_le 44 s)
    rw [hps] at HC
    by_cases hm : ps.length ≤ 256
    · have HG : Hid ((∀ k, k < ps.length → rnOk (ps.getD k ⟨#[]⟩) = true) → ∀ v w', ORow w.heap.size w' v (ps.map rnV) → Below w.heap.size w w' → RnLo s w (.returned (.tuple #[v, .bool true])) w') := Lib.hid (fun ha v w' hr hb => by
        have e := nl_good hn (by rw [hps]; exact hm) (by rw [hps]; exact ha)
        exact ⟨v, by rw [e.1], by rw [e.2, hps]; exact hr, hb⟩)
      have HB : Hid (∀ k, k < ps.length → rnOk (ps.getD k ⟨#[]⟩) = false → ∀ v w', ORow w.heap.size w' v [] → Below w.heap.size w w' → RnLo s w (.returned (.tuple #[v, .bool false])) w') := Lib.hid (fun k hk ha v w' hr hb => by
        have e := nl_bad hn (k := k) (by rw [hps]; exact hk) (by rw [hps]; exact ha)
        exact ⟨v, by rw [e.1], by rw [e.2]; exact hr, hb⟩)
      have h1 : 1 ≤ ps.length := by
        have := cutZ_length 44 s
        rw [hps] at this; omega
      clear hn hps
      go_enter Tryd.func119, Tryd.ntmps119
      go_wp2_with fail
      refine (HC.out _).mono ?_
      rintro e w1 ⟨v, rfl, hz, hb⟩
      have h0 := hz
      obtain ⟨_, h0⟩ := h0
      rcases h0 with ⟨_, h0⟩ | ⟨gp, cap, cur, rfl, _, hblk, _, _, _, _⟩
      · exact absurd h0 (by omega)
      have HPC : Hid (∀ wr : World, wr.heap[gp]? = some (.cells cur 9 (0, 0)) → ∀ k, k < ps.length → wr.cell? ⟨gp, k, none⟩ = some (.string (ps.getD k ⟨#[]⟩))) := Lib.hid (fun wr he k hk => by
        rw [World.cell?_of_block (w := w1) (w' := wr) (a := ⟨gp, k, none⟩) (by rw [he, hblk])]
        exact hz.cellAt k hk)
      have P0 := Lib.hid hblk
      have O1 := Lib.hid (O0.out.kept hb)
      have B1 := Lib.hid (below_step Bw.out hb)
      have HM := Lib.hid hm
      clear hz hb hblk
      obtain ⟨n, hnn⟩ : ∃ n, ps.length = n := ⟨_, rfl⟩
      have HN := Lib.hid hnn
      rw [hnn] at hm h1 ⊢
      clear hnn
      go_wp2
      go_loopw [4, 6, 7, 8, 9, 10, 11] (fun out i _ _ _ _ _ wr => ∃ (v0 : Value) (k : Nat), out = v0 ∧ i = .int .i64 k ∧ k ≤ n ∧ Hid (∀ j, j < k → rnOk (ps.getD j ⟨#[]⟩) = true) ∧ Hid (wr.heap[gp]? = some (.cells cur 9 (0, 0))) ∧ Hid (Own wr w.heap.size v0 ((ps.take k).map rnV)) ∧ Hid (Below w.heap.size w wr)) (fun _ i _ _ _ _ _ _ => n - (intOf i).toNat)
      case atStart => exact ⟨_, 0, rfl, rfl, Nat.zero_le _, Lib.hid (fun j h => by omega), P0, O1, B1⟩
      case round =>
        obtain ⟨v0, k, rfl, rfl, hk, ha, hp, ho, hb⟩ := hrel
        by_cases hlt : k < n
        · have hcell := HPC.out wr hp.out k (by have := HN.out; omega)
          obtain ⟨x, hx⟩ : ∃ x, ps.getD k ⟨#[]⟩ = x := ⟨_, rfl⟩
          rw [hx] at hcell
          have HX := Lib.hid hx
          clear hx
          by_cases h8 : x.size = 8
          · have hd8 : ((x.size : Int) != 8) = false := by simp [h8]
            have hd9 : ((x.size : Int) == 8) = true := by simp [h8]
            go_wp2
            go_loop [7, 8, 9, 10] (fun n k _ _ => ∃ j : Nat, j ≤ 8 ∧ k = .int .i64 j ∧ n = .int .i64 (hxv x j) ∧ Hid (∀ i, i < j → 0 ≤ hxd (byteAt x i))) (fun _ k _ _ => 8 - (intOf k).toNat)
            case atStart => exact ⟨0, Nat.zero_le _, rfl, rfl, Lib.hid (fun j h => by omega)⟩
            case round =>
              obtain ⟨j, hj, rfl, rfl, hall⟩ := hrel
              have hvb := hxv_lt x (k := j) hj hall.out
              by_cases hjl : j < 8
              · have hxs : j < x.size := by omega
                have hbe := byteAt_eq x j hxs
                obtain ⟨b0, b1⟩ := byteAt_bd x j
                have hdl := hxd_le (byteAt x j)
                have HS0 : Hid (hxv x (j + 1) = 16 * hxv x j + hxd (byteAt x j)) := Lib.hid rfl
                have HNO : Hid (hxd (byteAt x j) < 0 → RnLo s w (.returned (.tuple #[.slice none 0 0, .bool false])) wr) := Lib.hid (fun h => HB.out k (by have := HN.out; omega) (by rw [HX.out]; exact rn_dig hjl h) _ _ (.inl ⟨⟨_, _, rfl⟩, rfl⟩) hb.out)
                obtain ⟨c, hcc⟩ : ∃ c, byteAt x j = c := ⟨_, rfl⟩
                have HA2 : Hid (0 ≤ hxd c → ∀ i, i < j + 1 → 0 ≤ hxd (byteAt x i)) := Lib.hid (fun h i hi => by
                  by_cases e : i = j
                  · rw [e, hcc]; exact h
                  · exact hall.out i (by omega))
                obtain ⟨n0, hnn⟩ : ∃ n0, hxv x j = n0 := ⟨_, rfl⟩
                rw [hcc, hnn] at HS0
                rw [hcc] at hbe b0 b1 hdl HNO
                rw [hnn] at hvb ⊢
                clear hcc hnn
                by_cases g1 : 48 ≤ c
                · have c1 : decide (48 ≤ c) = true := decide_eq_true g1
                  by_cases g2 : c ≤ 57
                  · have c2 : decide (c ≤ 57) = true := decide_eq_true g2
                    have c3 : decide (97 ≤ c) = false := decide_eq_false (by omega)
                    have d0 : decide (c - 48 < 0) = false := decide_eq_false (by omega)
                    have hg : hxd c = c - 48 := hxd_dig (by omega) (by omega)
                    have e1 : IntKind.u8.wrap (c - 48) = c - 48 := by unfold IntKind.wrap; simp [IntKind.bits, IntKind.signed]; omega
                    have e2 : IntKind.i64.wrap (c - 48) = c - 48 := by unfold IntKind.wrap; simp [IntKind.bits, IntKind.signed]; omega
                    have HA3 := Lib.hid (HA2.out (by rw [hg]; omega))
                    have HS : Hid (hxv x (j + 1) = 16 * n0 + (c - 48)) := Lib.hid (by rw [HS0.out, hg])
                    have e7 : IntKind.i64.wrap (16 * n0) = 16 * n0 := by unfold IntKind.wrap; simp [IntKind.bits, IntKind.signed]; omega
                    have e8 : IntKind.i64.wrap (16 * n0 + (c - 48)) = 16 * n0 + (c - 48) := by unfold IntKind.wrap; simp [IntKind.bits, IntKind.signed]; omega
                    clear hg HS0 HA2 HNO
                    go_wp2
                    go_round
                    case rel => exact ⟨j + 1, by omega, by go_num, by rw [HS.out], HA3⟩
                    case measure => simp [intOf]; omega
                  · have c2 : decide (c ≤ 57) = false := decide_eq_false g2
                    by_cases g3 : 97 ≤ c
                    · have c3 : decide (97 ≤ c) = true := decide_eq_true g3
                      by_cases g4 : c ≤ 102
                      · have c4 : decide (c ≤ 102) = true := decide_eq_true g4
                        have d0 : decide (c - 97 + 10 < 0) = false := decide_eq_false (by omega)
                        have hg : hxd c = c - 87 := hxd_low (by omega) (by omega)
                        have e1 : IntKind.u8.wrap (c - 97) = c - 97 := by unfold IntKind.wrap; simp [IntKind.bits, IntKind.signed]; omega
                        have e2 : IntKind.i64.wrap (c - 97) = c - 97 := by unfold IntKind.wrap; simp [IntKind.bits, IntKind.signed]; omega
                        have e3 : IntKind.i64.wrap (c - 97 + 10) = c - 97 + 10 := by unfold IntKind.wrap; simp [IntKind.bits, IntKind.signed]; omega
                        have HA3 := Lib.hid (HA2.out (by rw [hg]; omega))
                        have HS : Hid (hxv x (j + 1) = 16 * n0 + (c - 97 + 10)) := Lib.hid (by rw [HS0.out, hg]; omega)
                        have e7 : IntKind.i64.wrap (16 * n0) = 16 * n0 := by unfold IntKind.wrap; simp [IntKind.bits, IntKind.signed]; omega
                        have e8 : IntKind.i64.wrap (16 * n0 + (c - 97 + 10)) = 16 * n0 + (c - 97 + 10) := by unfold IntKind.wrap; simp [IntKind.bits, IntKind.signed]; omega
                        clear hg HS0 HA2 HNO
                        go_wp2
                        go_round
                        case rel => exact ⟨j + 1, by omega, by go_num, by rw [HS.out], HA3⟩
                        case measure => simp [intOf]; omega
                      · have c4 : decide (c ≤ 102) = false := decide_eq_false g4
                        have HR := Lib.hid (HNO.out (by rw [hxd_no (by omega) (by omega)]; decide))
                        clear HS0 HA2 HNO
                        go_wp2
                        go_ret2
                        exact HR.out
                    · have c3 : decide (97 ≤ c) = false := decide_eq_false g3
                      have HR := Lib.hid (HNO.out (by rw [hxd_no (by omega) (by omega)]; decide))
                      clear HS0 HA2 HNO
                      go_wp2
                      go_ret2
                      exact HR.out
                · have c1 : decide (48 ≤ c) = false := decide_eq_false g1
                  have c3 : decide (97 ≤ c) = false := decide_eq_false (by omega)
                  have HR := Lib.hid (HNO.out (by rw [hxd_no (by omega) (by omega)]; decide))
                  clear HS0 HA2 HNO
                  go_wp2
                  go_ret2
                  exact HR.out
              · have e : j = 8 := by omega
                subst e
                have HFR := Lib.hid (fun w1 => specFr_any (hxv x 8) w1 hvb.1 hvb.2)
                have HBT := Lib.hid (fun w1 => specHb_any (hxv x 8).toNat w1 (wf_of hvb.1 hvb.2))
                by_cases hq : (hbit (hxv x 8).toNat : Int) = hxv x 8
                · have y := rn_yes h8 hall.out hq
                  have HY := Lib.hid y
                  clear y
                  obtain ⟨n, hnn⟩ : ∃ n, hxv x 8 = n := ⟨_, rfl⟩
                  rw [hnn] at hq HFR HBT HY hvb ⊢
                  obtain ⟨t, htt⟩ : ∃ t : Nat, n.toNat = t := ⟨_, rfl⟩
                  rw [htt] at hq HFR HBT HY
                  obtain ⟨u, huu⟩ : ∃ u : Nat, hbit t = u := ⟨_, rfl⟩
                  rw [huu] at HBT hq
                  have q1 : ((u : Int) == n) = true := by simp [hq]
                  have q2 : ((u : Int) != n) = false := by simp [hq]
                  have OL := Lib.hid (ho.out.al (.cells #[.float .f32 t] 46))
                  have B3 := Lib.hid (hb.out.alloc (hb.out.size) (.cells #[.float .f32 t] 46))
                  have P3 : Hid ((wr.alloc (.cells #[.float .f32 t] 46)).heap[gp]? = some (.cells cur 9 (0, 0))) := Lib.hid (((below_al1 wr (.cells #[.float .f32 t] 46)).block gp (Array.getElem?_eq_some_iff.1 hp.out).1).trans hp.out)
                  have CS : Hid ((wr.alloc (.cells #[.float .f32 t] 46)).cell? ⟨wr.heap.size, 0, none⟩ = some (.float .f32 t)) := Lib.hid ((World.cell?_alloc_at _ _ _ _ (by simp)).trans rfl)
                  have HA : Hid (∀ j, j < k + 1 → rnOk (ps.getD j ⟨#[]⟩) = true) := Lib.hid (fun j hj => by
                    by_cases e : j = k
                    · rw [e, HX.out]; exact HY.out.1
                    · exact ha.out j (by omega))
                  have HT : Hid ((ps.take (k + 1)).map rnV = (ps.take k).map rnV ++ [t]) := Lib.hid (by rw [take_map_snocN (by have := HN.out; omega), HX.out, HY.out.2])
                  have HLn : Hid (((ps.take k).map rnV).length ≤ 1048576) := Lib.hid (by simp; omega)
                  clear hq hvb hnn htt huu hcell
                  go_wp2_with fail
                  refine (HFR.out _).mono ?_
                  rintro e w1 ⟨rfl, rfl⟩
                  go_wp2_with fail
                  refine (HBT.out _).mono ?_
                  rintro e w1 ⟨rfl, rfl⟩
                  go_wp2_with (at_builtin; refine wpList_app32K rfl _ _ rfl w.heap.size _ _ rfl OL.out _ 1 t rfl CS.out HLn.out (B3.out.size) ?_; intro v' w' hO' hB' hK')
                  have B4 := Lib.hid (B3.out.trans hB')
                  have O4 := Lib.hid hO'
                  have P4 := Lib.hid ((hK' _ _ _ P3.out).trans P3.out)
                  clear hO' hB' hK'
                  rw [← HT.out] at O4
                  go_wp2
                  refine ⟨⟨_, k + 1, rfl, by go_num, by omega, HA, P4, O4, B4⟩, ?_⟩
                  simp [intOf]; omega
                · have HR := Lib.hid (HB.out k (by have := HN.out; omega) (by rw [HX.out]; exact rn_bits hq) _ _ (.inl ⟨⟨none, 0, rfl⟩, rfl⟩) hb.out)
                  obtain ⟨n, hnn⟩ : ∃ n, hxv x 8 = n := ⟨_, rfl⟩
                  rw [hnn] at hq HFR HBT hvb ⊢
                  obtain ⟨t, htt⟩ : ∃ t : Nat, n.toNat = t := ⟨_, rfl⟩
                  rw [htt] at hq HFR HBT
                  obtain ⟨u, huu⟩ : ∃ u : Nat, hbit t = u := ⟨_, rfl⟩
                  rw [huu] at HBT hq
                  have q1 : ((u : Int) == n) = false := by simp [hq]
                  have q2 : ((u : Int) != n) = true := by simp [hq]
                  clear hq hvb hnn htt huu hcell
                  go_wp2_with fail
                  refine (HFR.out _).mono ?_
                  rintro e w1 ⟨rfl, rfl⟩
                  go_wp2_with fail
                  refine (HBT.out _).mono ?_
                  rintro e w1 ⟨rfl, rfl⟩
                  go_wp2
                  go_ret2
                  exact HR.out
          · have hd8 : ((x.size : Int) != 8) = true := by simp; omega
            have hd9 : ((x.size : Int) == 8) = false := by simp; omega
            have HR := Lib.hid (HB.out k (by have := HN.out; omega) (by rw [HX.out]; exact rn_size h8) (.slice none 0 0) wr (.inl ⟨⟨_, _, rfl⟩, rfl⟩) hb.out)
            go_wp2
            go_ret2
            exact HR.out
        · have e : k = n := by omega
          have HE := Lib.hid (HG.out (fun j hj => ha.out j (by have := HN.out; omega)))
          have HO : Hid (ORow w.heap.size wr u4 (ps.map rnV)) := Lib.hid (by
            have h := ho.out
            rw [List.take_of_length_le (by have := HN.out; omega)] at h
            exact h.orow)
          clear ha
          go_wp2
          go_ret2
          exact HE.out _ _ HO.out hb.out
    · have HB : Hid (∀ v w', ORow w.heap.size w' v [] → Below w.heap.size w w' → RnLo s w (.returned (.tuple #[v, .bool false])) w') := Lib.hid (fun v w' hr hb => by
        have e := nl_many hn (by rw [hps]; exact hm)
        exact ⟨v, by rw [e.1], by rw [e.2]; exact hr, hb⟩)
      have hd : decide (256 < (ps.length : Int)) = true := decide_eq_true (by omega)
      clear hn hps
      go_enter Tryd.func119, Tryd.ntmps119
      go_wp2_with fail
      refine (HC.out _).mono ?_
      rintro e w1 ⟨v, rfl, hz, hb⟩
      obtain ⟨g, cap, rfl⟩ := hz.openS (by omega)
      have B1 := Lib.hid (below_step Bw.out hb)
      clear hz hb
      go_wp2
      go_ret2
      exact HB.out _ _ (.inl ⟨⟨_, _, rfl⟩, rfl⟩) B1.out
theorem specNl_any (s : ByteArray) (w : World) (hs : s.size ≤ 1048576) : Calls Tryd.prog 119 #[.string s] w (RnL s w) :=
  (specNlo_any s w hs).mono fun _ _ ⟨v, he, hr, hb⟩ => ⟨v, he, hr.frow (by have := nlL_le s; have : maxLen = 9223372036854775807 := rfl; omega), hb⟩
end Go.Proofs.YtncjkhdnpioinaaDoor
