/- Several texts in one, for a claim holds 60 files at most: HexM Tabs Fl Fc Run Ord Num Ext Same Cell Fr Loose LooseB AppU CatU Fmt16 HexW JoinM AppZ Sl NTx SlC NTxI Tls Facts Facts2 FactsL Rod Fin PosW Pos RodC Onl Mark ValidS AllF AllP All Giv Lay AppB App New MarkR Plain Copy. -/
import Derived.Lib.Repeat
import Derived.Test.YtbgldggaiefhoaaDoorRows
import Derived.Shelf.Strconv.Itoa4
import Derived.Lib.SmallJoins
import Derived.Stop.LaidErr
import Derived.LaidMore
import Derived.WalkKit
import Derived.WalkLawsBesides
import Derived.Deep.Draws
import Derived.ProofKit
import Derived.OpenShut
import Derived.ShutString
import Derived.ChangeOld
import Derived.Below
import Derived.Lib.Hide
import Derived.Deep.OwnRows
import Derived.Deep.Slices
import Derived.Deep.QuietTactic
import Derived.BigQuiet
import Derived.Laws.OwnMore
import Derived.Laws.BytesArg
import Derived.Laws.IdiomStrings
import Derived.ArgAppend
import Derived.Test.YtbgldggaiefhoaaDoorShelf
import Derived.Lib.Join
import Derived.StillTail
import Derived.Deep.RegionHeld3
import Derived.IntWalk
import Derived.Deep.AppendLies

/- Eight hexadecimal digits. No program stands in this text. -/
namespace Go.Proofs.YtbgldggaiefhoaaDoor
open Go

/-- a digit's byte -/
def hd (d : Nat) : Int := if d < 10 then 48 + (d : Int) else 87 + (d : Int)
theorem hd_lo (d : Nat) : 0 ≤ hd d := by unfold hd; split <;> omega
theorem hd_hi (d : Nat) (h : d < 16) : hd d < 256 := by unfold hd; split <;> omega
/-- the digit of 16^e -/
def hx (u e : Nat) : Int := hd (u / 16 ^ e % 16)
theorem hx_zero {u k e : Nat} (h : u < 16 ^ (k + 1)) (he : k < e) : hx u e = 48 := by
  have : u < 16 ^ e := Nat.lt_of_lt_of_le h (Nat.pow_le_pow_right (by decide) he)
  unfold hx
  rw [Nat.div_eq_of_lt this]
  rfl
/-- the last digits, from that of 16^k on -/
def hexK (u : Nat) : Nat → List Int
  | 0 => [hx u 0]
  | k + 1 => hx u (k + 1) :: hexK u k
def hexL (u : Nat) : List Int := hexK u 7
theorem hexK_len (u : Nat) : ∀ k, (hexK u k).length = k + 1
  | 0 => rfl
  | k + 1 => by unfold hexK; rw [List.length_cons, hexK_len u k]
theorem hexK_at (u : Nat) : ∀ (k i : Nat), i ≤ k → (hexK u k)[i]? = some (hx u (k - i))
  | 0, 0, _ => rfl
  | k + 1, 0, _ => rfl
  | k + 1, i + 1, h => by
    unfold hexK
    rw [List.getElem?_cons_succ, hexK_at u k i (by omega), show k + 1 - (i + 1) = k - i from by omega]
theorem hexK_pad {u k : Nat} (h : u < 16 ^ (k + 1)) : ∀ n, hexK u (k + n) = List.replicate n 48 ++ hexK u k
  | 0 => rfl
  | n + 1 => by
    show hx u (k + n + 1) :: hexK u (k + n) = _
    rw [hexK_pad h n, hx_zero h (by omega), List.replicate_succ]
    rfl
theorem hexL_pad {u k : Nat} (hk : k ≤ 7) (h : u < 16 ^ (k + 1)) : hexL u = List.replicate (8 - (k + 1)) 48 ++ hexK u k := by
  unfold hexL
  rw [show 7 = k + (7 - k) from by omega, hexK_pad h, show 8 - (k + 1) = 7 - k from by omega]
theorem hexL_take (u m : Nat) (hm : m < 8) : (hexL u).take (m + 1) = (hexL u).take m ++ [hx u (7 - m)] := by
  rw [List.take_add_one, hexL, hexK_at u 7 m (by omega)]
  rfl
theorem hexL_len (u : Nat) : (hexL u).length = 8 := hexK_len u 7
end Go.Proofs.YtbgldggaiefhoaaDoor

/- What the listed tables of Go's library hold. -/
namespace Go.Proofs.YtbgldggaiefhoaaDoor
open Go.RowKit
set_option linter.unusedVariables false
def dbr64 : List Int := [0, 1, 56, 2, 57, 49, 28, 3, 61, 58, 42, 50, 38, 29, 17, 4, 62, 47, 59, 36, 45, 43, 51, 22, 53, 39, 33, 30, 24, 18, 12, 5, 63, 55, 48, 27, 60, 41, 37, 16, 46, 35, 44, 21, 52, 32, 23, 11, 54, 26, 40, 15, 34, 20, 31, 10, 25, 14, 19, 9, 13, 8, 7, 6]
/-- the tables that are read -/
structure Tabs (w : World) : Prop where
  p10 : Lib.TabIs Tryd.prog w "internal/strconv.uint64pow10" .u64 Lib.pow10Tab
  d64 : Lib.TabIs Tryd.prog w "math/bits.deBruijn64tab" .u8 dbr64
theorem Tabs.below {w w' : World} (h : Tabs w) (hb : Below w.heap.size w w') : Tabs w' :=
  ⟨Joins.tab_stays (g := 3) (by kernel_rfl) h.p10 hb (Nat.le_refl _), Joins.tab_stays (g := 8) (by kernel_rfl) h.d64 hb (Nat.le_refl _)⟩
theorem tabs {w : World} (h : laidMetH Tryd.prog [("math/bits.deBruijn32tab", Rows.laid_math_bits_deBruijn32tab), ("math/bits.deBruijn64tab", Rows.laid_math_bits_deBruijn64tab), ("internal/strconv.uint64pow10", Rows.laid_internal_strconv_uint64pow10)] w) : Tabs w := by
  rw [MakeChecks.laidMetH_plain _ _ _ (by kernel_rfl)] at h
  have h2 := h.tail
  have h3 := h2.tail
  exact ⟨Lib.tabIs_of_head (zs := Lib.pow10Tab) (g := 3) (t := 213) (e := 165) (n := 20) (by kernel_rfl) (by kernel_rfl) (by kernel_rfl) (by kernel_rfl) (by kernel_rfl) (by kernel_rfl) h3,
    Lib.tabIs_of_head (zs := dbr64) (g := 8) (t := 230) (e := 5) (n := 64) (by kernel_rfl) (by kernel_rfl) (by kernel_rfl) (by kernel_rfl) (by kernel_rfl) (by kernel_rfl) h2⟩
end Go.Proofs.YtbgldggaiefhoaaDoor

/- Plain facts on the model's floats: canonical bits (one not-a-number), operations on them, and the walk's rules that give a result up to the bits of a not-a-number. -/
namespace Go.Proofs.YtbgldggaiefhoaaDoor
open Go

/-- is it a not-a-number -/
def nn (k : FloatKind) (b : Nat) : Bool := (k.decode b).isNaN
/-- the one not-a-number -/
def qn : FloatKind → Nat
  | .f32 => 0x7fc00000
  | .f64 => 0x7ff8000000000001
/-- canonical bits -/
def cn (k : FloatKind) (b : Nat) : Nat := if nn k b then qn k else b
/-- an operation on bits, with the one not-a-number -/
def fop (op : BinOp) (k : FloatKind) (x y : Nat) : Nat := (floatBits op k x y).getD (qn k)

theorem read_word (f : Ieee.Format) (neg : Bool) (r : Nat) (h : r ≤ f.infRung) : (f.read (f.word neg r)).isNaN = false := by
  have h1 := Ieee.Format.infRung_lt f
  have hs : 0 < f.signWeight := Nat.two_pow_pos _
  have e : f.word neg r % f.signWeight = r := by
    unfold Ieee.Format.word
    split
    · rw [Nat.add_mod_left, Nat.mod_eq_of_lt (by omega)]
    · exact Nat.mod_eq_of_lt (by omega)
  unfold Ieee.Format.read
  simp only [e]
  split
  · rfl
  · split
    · rfl
    · split
      · rfl
      · omega

theorem read_write (f : Ieee.Format) (d : Ieee.Datum) (h : d.isNaN = false) : (f.read (f.write d)).isNaN = false := by
  cases d with
  | number neg mag place =>
    show (f.read (f.nearest neg mag place)).isNaN = false
    unfold Ieee.Format.nearest
    split
    · exact read_word f neg 0 (Nat.zero_le _)
    · exact read_word f neg _ (Nat.min_le_right _ _)
  | infinity neg => exact read_word f neg _ (Nat.le_refl _)
  | nan neg t => simp [Ieee.Datum.isNaN] at h

theorem sum_num {x y d : Ieee.Datum} (h : x.sum y = some d) : d.isNaN = false := by
  cases x <;> cases y <;> simp [Ieee.Datum.sum] at h <;> (try (obtain ⟨_, rfl⟩ := h)) <;> (try subst h) <;> rfl

theorem product_num {x y d : Ieee.Datum} (h : x.product y = some d) : d.isNaN = false := by
  cases x <;> cases y <;> simp [Ieee.Datum.product] at h <;> (try (obtain ⟨_, rfl⟩ := h)) <;> (try subst h) <;> rfl

theorem quotient_num {n : Nat} {x y d : Ieee.Datum} (h : x.quotient n y = some d) : d.isNaN = false := by
  cases x <;> cases y <;> simp [Ieee.Datum.quotient] at h
  · rename_i s m i t k j
    by_cases hk : k = 0
    · by_cases hm : m = 0
      · simp [hk, hm] at h
      · simp [hk, hm] at h; subst h; rfl
    · simp [hk] at h; subst h; rfl
  all_goals (subst h; rfl)

theorem root_num {n : Nat} {x d : Ieee.Datum} (h : x.root n = some d) : d.isNaN = false := by
  cases x with
  | number s m i =>
    simp only [Ieee.Datum.root] at h
    split at h
    · cases h; rfl
    · split at h
      · cases h
      · cases h; rfl
  | infinity s => simp only [Ieee.Datum.root] at h; split at h <;> cases h; rfl
  | nan s t => simp [Ieee.Datum.root] at h

theorem floatBits_num {op : BinOp} {k : FloatKind} {x y r : Nat} (h : floatBits op k x y = some r) : nn k r = false := by
  unfold floatBits at h
  unfold nn FloatKind.decode
  cases op <;> simp only at h <;> first | (cases h; done) | skip
  all_goals
    simp only [Ieee.Format.add, Ieee.Format.sub, Ieee.Format.mul, Ieee.Format.div, Option.map_eq_some_iff] at h
    obtain ⟨d, hd, rfl⟩ := h
  · exact read_write _ _ (sum_num hd)
  · exact read_write _ _ (sum_num hd)
  · exact read_write _ _ (product_num hd)
  · exact read_write _ _ (quotient_num hd)

theorem nn_qn (k : FloatKind) : nn k (qn k) = true := by cases k <;> rfl

theorem cn_of_num {k : FloatKind} {b : Nat} (h : nn k b = false) : cn k b = b := by simp [cn, h]
theorem cn_of_nan {k : FloatKind} {b : Nat} (h : nn k b = true) : cn k b = qn k := by simp [cn, h]

theorem nn_cn (k : FloatKind) (b : Nat) : nn k (cn k b) = nn k b := by
  unfold cn; split
  · rename_i h; rw [nn_qn, h]
  · rfl
theorem cn_cn (k : FloatKind) (b : Nat) : cn k (cn k b) = cn k b := by
  have := nn_cn k b
  cases h : nn k b
  · rw [cn_of_num h, cn_of_num h]
  · rw [cn_of_nan h, cn_of_nan (nn_qn k)]

theorem decode_nan {k : FloatKind} {b : Nat} (h : nn k b = true) : ∃ s t, k.format.read b = .nan s t := by
  unfold nn FloatKind.decode at h
  cases e : k.format.read b <;> simp [e, Ieee.Datum.isNaN] at h
  exact ⟨_, _, rfl⟩

theorem floatBits_nan_left {op : BinOp} {k : FloatKind} {x y : Nat} (h : nn k x = true) : floatBits op k x y = none := by
  obtain ⟨s, t, e⟩ := decode_nan h
  unfold floatBits
  cases op <;> simp only <;> cases hy : k.format.read y <;> simp [Ieee.Format.add, Ieee.Format.sub, Ieee.Format.mul, Ieee.Format.div, e, hy, Ieee.Datum.sum, Ieee.Datum.product, Ieee.Datum.quotient]

theorem floatBits_nan_right {op : BinOp} {k : FloatKind} {x y : Nat} (h : nn k y = true) : floatBits op k x y = none := by
  obtain ⟨s, t, e⟩ := decode_nan h
  unfold floatBits
  cases op <;> simp only <;> cases hx : k.format.read x <;> simp [Ieee.Format.add, Ieee.Format.sub, Ieee.Format.mul, Ieee.Format.div, e, hx, Ieee.Datum.sum, Ieee.Datum.product, Ieee.Datum.quotient, Ieee.Datum.opposite]

theorem floatBits_cn (op : BinOp) (k : FloatKind) (x y : Nat) : floatBits op k (cn k x) (cn k y) = floatBits op k x y := by
  cases hx : nn k x
  · cases hy : nn k y
    · rw [cn_of_num hx, cn_of_num hy]
    · rw [floatBits_nan_right hy, floatBits_nan_right (by rw [nn_cn]; exact hy)]
  · rw [floatBits_nan_left hx, floatBits_nan_left (by rw [nn_cn]; exact hx)]

theorem order_cn (k : FloatKind) (x y : Nat) : k.format.order (cn k x) (cn k y) = k.format.order x y := by
  have L : ∀ a b, nn k a = true → k.format.order a b = none := fun a b h => by
    obtain ⟨s, t, e⟩ := decode_nan h
    cases hb : k.format.read b <;> simp [Ieee.Format.order, e, hb, Ieee.Datum.order]
  have R : ∀ a b, nn k b = true → k.format.order a b = none := fun a b h => by
    obtain ⟨s, t, e⟩ := decode_nan h
    cases ha : k.format.read a <;> simp [Ieee.Format.order, e, ha, Ieee.Datum.order]
  cases hx : nn k x
  · cases hy : nn k y
    · rw [cn_of_num hx, cn_of_num hy]
    · rw [R _ _ hy, R _ _ (by rw [nn_cn]; exact hy)]
  · rw [L _ _ hx, L _ _ (by rw [nn_cn]; exact hx)]

theorem order_self {k : FloatKind} {x : Nat} : k.format.order x x = if nn k x then none else some .eq := by
  unfold nn FloatKind.decode Ieee.Format.order
  cases k.format.read x with
  | number s m i => simp [Ieee.Datum.order, Ieee.Datum.isNaN, compare, compareOfLessAndEq]
  | infinity s => cases s <;> simp [Ieee.Datum.order, Ieee.Datum.isNaN, compare, compareOfLessAndEq]
  | nan s t => simp [Ieee.Datum.order, Ieee.Datum.isNaN]

/-- the bits that the tape gives for a not-a-number are one -/
theorem nan_cut (k : FloatKind) (q : Question) (t : Nat) (hq : ∀ t, q.cut t = (Question.nanBits k 0 0).cut t) : nn k (q.cut t) = true ∧ (Lit.float k (q.cut t)).wf = true := by
  rw [hq]
  cases k
  · have hm : t / 2 % (2 ^ 23 - 1) < 2 ^ 23 - 1 := Nat.mod_lt _ (by decide)
    have ht : t % 2 < 2 := Nat.mod_lt _ (by decide)
    simp only [Question.cut]
    generalize t / 2 % (2 ^ 23 - 1) = a at *
    generalize t % 2 = b at *
    have sw : Ieee.single.signWeight = 2147483648 := by decide
    have bn : Ieee.single.binade = 8388608 := by decide
    have ir : Ieee.single.infRung = 2139095040 := by decide
    have e : (b * 2 ^ 31 + 0x7f800000 + 1 + a) % 2147483648 = 0x7f800000 + 1 + a := by omega
    constructor
    · unfold nn FloatKind.decode FloatKind.format Ieee.Format.read
      simp only [sw, bn, ir, e]
      rw [if_neg (by omega), if_neg (by omega), if_neg (by omega)]
      rfl
    · simp [Lit.wf]; omega
  · have hm : t / 2 % (2 ^ 52 - 1) < 2 ^ 52 - 1 := Nat.mod_lt _ (by decide)
    have ht : t % 2 < 2 := Nat.mod_lt _ (by decide)
    simp only [Question.cut]
    generalize t / 2 % (2 ^ 52 - 1) = a at *
    generalize t % 2 = b at *
    have sw : Ieee.double.signWeight = 9223372036854775808 := by decide
    have bn : Ieee.double.binade = 4503599627370496 := by decide
    have ir : Ieee.double.infRung = 9218868437227405312 := by decide
    have e : (b * 2 ^ 63 + 0x7ff0000000000000 + 1 + a) % 9223372036854775808 = 0x7ff0000000000000 + 1 + a := by omega
    constructor
    · unfold nn FloatKind.decode FloatKind.format Ieee.Format.read
      simp only [sw, bn, ir, e]
      rw [if_neg (by omega), if_neg (by omega), if_neg (by omega)]
      rfl
    · simp [Lit.wf]; omega


def isArith : BinOp → Bool
  | .add | .sub | .mul | .quo => true
  | _ => false

/-- r are bits of the result of an operation -/
def FR (op : BinOp) (k : FloatKind) (m n r : Nat) : Prop := cn k r = fop op k (cn k m) (cn k n) ∧ (Lit.float k r).wf = true

theorem FR_some {op : BinOp} {k : FloatKind} {m n r : Nat} (h : floatBits op k m n = some r) : FR op k m n r :=
  ⟨by rw [fop, floatBits_cn, h, cn_of_num (floatBits_num h)]; rfl, floatBits_wf h⟩
theorem FR_none {op : BinOp} {k : FloatKind} {m n r : Nat} (h : floatBits op k m n = none) (hr : nn k r = true) (hw : (Lit.float k r).wf = true) : FR op k m n r :=
  ⟨by rw [fop, floatBits_cn, h, cn_of_nan hr]; rfl, hw⟩

@[go_sem] theorem run_store_float {P : Program} {w : World} {a : Addr} {m : Mode} (k : FloatKind) (b : Nat) : (store a (.float k b) m).run P w = stored P w a (.float k b) m := run_store P w a _ m rfl
@[go_sem] theorem run_store_complex {P : Program} {w : World} {a : Addr} {m : Mode} (k : FloatKind) (b c : Nat) : (store a (.complex k b c) m).run P w = stored P w a (.complex k b c) m := run_store P w a _ m rfl

section
variable {P : Program}
theorem run_choose {α : Type} (q : Question) (hq : q.forced = false) (f : Nat → α) (w : World) :
    (Sem.bind (choose q) fun t => Sem.pure (f t)).run P w = .ok (f (q.cut (w.tape w.drawn q))) (w.drewN 1) := by
  simp [choose, Sem.bind, Sem.run, hq]
  rfl

theorem run_farith (op : BinOp) (hop : isArith op = true) (t : TypeId) (k : FloatKind) (m n : Nat) (w : World) :
    ∃ r j, FR op k m n r ∧ (binOp op t (.float k m) (.float k n)).run P w = .ok (.float k r) (w.drewN j) := by
  cases h : floatBits op k m n with
  | some r => exact ⟨r, 0, FR_some h, run_float_arith w op t k m n r h⟩
  | none =>
    refine ⟨(Question.nanBits k m n).cut (w.tape w.drawn (.nanBits k m n)), 1, ?_, ?_⟩
    · have := nan_cut k (.nanBits k m n) (w.tape w.drawn (.nanBits k m n)) (by intro t; cases k <;> rfl)
      exact FR_none h this.1 this.2
    · have e : (binOp op t (.float k m) (.float k n)) = (Sem.bind (choose (.nanBits k m n)) fun t => Sem.pure (.float k t)) := by
        unfold floatBits at h
        cases op <;> simp [isArith] at hop <;> simp only at h <;> simp [binOp, Op.floatArith, h] <;> rfl
      rw [e]
      exact run_choose _ (by cases k <;> rfl) _ w

variable {ops : Array Oper} {Q : Exit → Act → World → Prop} {rest : List Oper} {o : Oper} {a : Act} {w : World}
theorem wp_farith {K : Act → World → Prop} (op : BinOp) (t : TypeId) (x y : Operand) (t' : TypeId) (ho : o.op = .binOp op t x y t') (hop : isArith op = true) (k : FloatKind) (m n : Nat)
    (hx : a.eval x = .float k m) (hy : a.eval y = .float k n) (h : ∀ r j, FR op k m n r → K (a.put o.dst (.float k r)) (w.drewN j)) : o.wp P a w K Q := by
  obtain ⟨r, j, hr, hw⟩ := run_farith (P := P) op hop t k m n w
  unfold Oper.wp execOp
  have hg : (eqGuard op t x y (.float k m) (.float k n)) = pure () := by
    cases op <;> simp [isArith] at hop <;> rfl
  simp only [ho, hx, hy, hg, Sem.run_bind, Sem.run_pure, Result.andThen_ok, hw]
  exact h r j hr

theorem wpList_farith (hgd : o.guard = none) (op : BinOp) (t : TypeId) (x y : Operand) (t' : TypeId) (ho : o.op = .binOp op t x y t') (hop : isArith op = true) (k : FloatKind) (m n : Nat)
    (hx : a.eval x = .float k m) (hy : a.eval y = .float k n) (h : ∀ r j, FR op k m n r → wpList P ops Q rest (a.put o.dst (.float k r)) (w.drewN j)) : wpList P ops Q (o :: rest) a w :=
  wpList_plain hgd fun _ hK => wp_farith op t x y t' ho hop k m n hx hy fun r j hr => hK _ _ (h r j hr)

end
end Go.Proofs.YtbgldggaiefhoaaDoor

/- Conversions between the two float kinds, and the walk's rules for them. -/
namespace Go.Proofs.YtbgldggaiefhoaaDoor
open Go

theorem read_word_fin (f : Ieee.Format) (neg : Bool) (r : Nat) (h : r < f.infRung) : (f.read (f.word neg r)).isInfinity = false := by
  have h1 := Ieee.Format.infRung_lt f
  have hs : 0 < f.signWeight := Nat.two_pow_pos _
  have e : f.word neg r % f.signWeight = r := by
    unfold Ieee.Format.word
    split
    · rw [Nat.add_mod_left, Nat.mod_eq_of_lt (by omega)]
    · exact Nat.mod_eq_of_lt (by omega)
  unfold Ieee.Format.read
  simp only [e]
  split
  · rfl
  · first | rfl | (rw [if_pos h]; rfl)

theorem read_single_bounds {b : Nat} {s : Bool} {m : Nat} {e : Int} (h : Ieee.single.read b = .number s m e) : m < 2 ^ 24 ∧ -149 ≤ e ∧ e ≤ 104 := by
  have sw : Ieee.single.signWeight = 2147483648 := by decide
  have bn : Ieee.single.binade = 8388608 := by decide
  have ir : Ieee.single.infRung = 2139095040 := by decide
  have lp : Ieee.single.leastPlace = -149 := by decide
  unfold Ieee.Format.read at h
  simp only [sw, bn, ir, lp] at h
  split at h
  · simp only [Ieee.Datum.number.injEq] at h
    omega
  · split at h
    · simp only [Ieee.Datum.number.injEq] at h
      omega
    · split at h <;> simp at h

theorem cut_zero (neg : Bool) (n : Nat) : Ieee.Toward.even.cut neg n 0 = n := by
  unfold Ieee.Toward.cut
  simp [Nat.mod_one]

theorem up_num (T K : Nat) (hT : T ≤ 1149) (hK : K < 9007199254740992) : min (T * 4503599627370496 + K) 9218868437227405312 < 9218868437227405312 :=
  Nat.lt_of_le_of_lt (Nat.min_le_left _ _) (by omega)

theorem up_kept (m : Nat) (hl : m.log2 < 24) : m * 2 ^ (52 - m.log2) < 9007199254740992 := by
  have hup : m < 2 ^ (m.log2 + 1) := Nat.lt_log2_self
  have h : m * 2 ^ (52 - m.log2) < 2 ^ (m.log2 + 1) * 2 ^ (52 - m.log2) := Nat.mul_lt_mul_of_pos_right hup (Nat.two_pow_pos _)
  rw [← Nat.pow_add, show m.log2 + 1 + (52 - m.log2) = 53 by omega] at h
  exact h

theorem double_inf : Ieee.double.infRung = 9218868437227405312 := by decide
theorem double_binade : Ieee.double.binade = 4503599627370496 := by decide
theorem double_least : Ieee.double.leastPlace = -1074 := by decide
theorem double_fraction : (Ieee.double.fractionBits : Int) = 52 := by decide

theorem up_nearest (s : Bool) (m : Nat) (e : Int) (hz : m ≠ 0) (hl : m.log2 < 24) (h0 : -149 ≤ e) (h1 : e ≤ 104) :
    ∃ r, Ieee.double.nearest s m e = Ieee.double.word s r ∧ r < 9218868437227405312 := by
  have e1 : max (e + (m.log2 : Int) - 52) (-1074) = e + (m.log2 : Int) - 52 := by omega
  have e2 : (e + (m.log2 : Int) - 52 - e).toNat = 0 := by omega
  have e3 : (e - (e + (m.log2 : Int) - 52)).toNat = 52 - m.log2 := by omega
  have e4 : (e + (m.log2 : Int) - 52 - -1074).toNat ≤ 1149 := by omega
  refine ⟨min ((e + (m.log2 : Int) - 52 - -1074).toNat * 4503599627370496 + m * 2 ^ (52 - m.log2)) 9218868437227405312, ?_, up_num _ _ e4 (up_kept m hl)⟩
  unfold Ieee.Format.nearest
  rw [if_neg hz]
  simp only [double_least, double_fraction, double_binade, double_inf, e1, e2, e3, cut_zero, Nat.shiftLeft_eq]

theorem up_fits (s : Bool) (m : Nat) (e : Int) (hm : m < 2 ^ 24) (h0 : -149 ≤ e) (h1 : e ≤ 104) : (Ieee.double.read (Ieee.double.write (.number s m e))).isInfinity = false := by
  show (Ieee.double.read (Ieee.double.nearest s m e)).isInfinity = false
  by_cases hz : m = 0
  · subst hz
    exact read_word_fin Ieee.double s 0 (by rw [double_inf]; omega)
  · obtain ⟨r, er, hr⟩ := up_nearest s m e hz ((Nat.log2_lt hz).2 hm) h0 h1
    rw [er]
    exact read_word_fin _ _ _ (by rw [double_inf]; exact hr)

theorem up_some {b : Nat} (h : nn .f32 b = false) : ∃ r, floatToFloatBits .f32 b .f64 = some r := by
  unfold floatToFloatBits
  rw [if_neg (by decide)]
  unfold nn at h
  cases e : FloatKind.f32.decode b with
  | nan s t => rw [e] at h; simp [Ieee.Datum.isNaN] at h
  | infinity s => exact ⟨_, rfl⟩
  | number s m i =>
    obtain ⟨hm, h0, h1⟩ := read_single_bounds (show Ieee.single.read b = _ from e)
    have hf := up_fits s m i hm h0 h1
    simp only
    rw [if_neg (by rw [show FloatKind.f64.decode (FloatKind.f64.encode (.number s m i)) = Ieee.double.read (Ieee.double.write (.number s m i)) from rfl, hf]; simp)]
    exact ⟨_, rfl⟩

theorem ftf_num {s d : FloatKind} {b r : Nat} (hsd : s ≠ d) (h : floatToFloatBits s b d = some r) : nn d r = false := by
  unfold floatToFloatBits at h
  rw [if_neg hsd] at h
  split at h
  · cases h
  · cases h; exact read_write _ _ rfl
  · split at h
    · cases h
    · cases h; exact read_write _ _ rfl

theorem ftf_nan {s d : FloatKind} {b : Nat} (hsd : s ≠ d) (h : nn s b = true) : floatToFloatBits s b d = none := by
  obtain ⟨sg, t, e⟩ := decode_nan h
  unfold floatToFloatBits FloatKind.decode
  rw [if_neg hsd, e]

/-- a 32-bit number made a 64-bit one -/
def cvu (b : Nat) : Nat := (floatToFloatBits .f32 b .f64).getD (qn .f64)
/-- narrowing, of what is not too great -/
def cvd (b : Nat) : Nat := (floatToFloatBits .f64 b .f32).getD (qn .f32)
/-- too great to be narrowed -/
def ovf (b : Nat) : Bool := !nn .f64 b && (floatToFloatBits .f64 b .f32).isNone

def UR (m r : Nat) : Prop := cn .f64 r = cvu (cn .f32 m) ∧ (Lit.float .f64 r).wf = true
def DR (m r : Nat) : Prop := (ovf (cn .f64 m) = false → cn .f32 r = cvd (cn .f64 m)) ∧ (Lit.float .f32 r).wf = true

section
variable {P : Program}
theorem nan_conv_wf (k : FloatKind) (b t : Nat) : nn k ((Question.nanConv k b).cut t) = true ∧ (Lit.float k ((Question.nanConv k b).cut t)).wf = true :=
  nan_cut k (.nanConv k b) t (by intro t; cases k <;> rfl)

theorem run_cvt_nan {S D : TypeId} {s d : FloatKind} (hs : P.underlying S = some (.float s)) (hd : P.underlying D = some (.float d)) (hsd : s ≠ d) (b : Nat) (w : World) (h : nn s b = true) :
    (convert S D (.float s b)).run P w = .ok (.float d ((Question.nanConv d b).cut (w.tape w.drawn (.nanConv d b)))) (w.drewN 1) := by
  obtain ⟨sg, t, e⟩ := decode_nan h
  have e' : (convert S D (.float s b)).run P w = (Sem.bind (choose (.nanConv d b)) fun t => Sem.pure (.float d t)).run P w := by
    simp only [convert, Sem.run_bind, run_underlying hs, run_underlying hd, Result.andThen_ok, Conv.floatToFloat, if_neg hsd]
    rw [show s.decode b = .nan sg t from e]
    rfl
  rw [e']
  exact run_choose _ (by cases d <;> rfl) _ w

theorem run_up {S D : TypeId} (hs : P.underlying S = some (.float .f32)) (hd : P.underlying D = some (.float .f64)) (m : Nat) (w : World) :
    ∃ r j, UR m r ∧ (convert S D (.float .f32 m)).run P w = .ok (.float .f64 r) (w.drewN j) := by
  cases h : nn .f32 m
  · obtain ⟨r, hr⟩ := up_some h
    refine ⟨r, 0, ⟨?_, ?_⟩, run_convert_float_float w S D .f32 .f64 m r (by rw [hs]; rfl) hd hr⟩
    · rw [cn_of_num h, cn_of_num (ftf_num (by decide) hr), cvu, hr]; rfl
    · unfold floatToFloatBits at hr
      rw [if_neg (by decide)] at hr
      split at hr
      · cases hr
      · cases hr; exact encode_wf ..
      · split at hr
        · cases hr
        · cases hr; exact encode_wf ..
  · have hc := nan_conv_wf .f64 m (w.tape w.drawn (.nanConv .f64 m))
    refine ⟨_, 1, ⟨?_, hc.2⟩, run_cvt_nan hs hd (by decide) m w h⟩
    rw [cn_of_nan hc.1, cn_of_nan h, cvu, ftf_nan (by decide) (nn_qn _)]; rfl

theorem run_down {S D : TypeId} (hs : P.underlying S = some (.float .f64)) (hd : P.underlying D = some (.float .f32)) (m : Nat) (w : World) :
    ∃ r j, DR m r ∧ (convert S D (.float .f64 m)).run P w = .ok (.float .f32 r) (w.drewN j) := by
  cases h : nn .f64 m
  · cases hr : floatToFloatBits .f64 m .f32 with
    | some r =>
      refine ⟨r, 0, ⟨fun _ => ?_, ?_⟩, run_convert_float_float w S D .f64 .f32 m r (by rw [hs]; rfl) hd hr⟩
      · rw [cn_of_num h, cn_of_num (ftf_num (by decide) hr), cvd, hr]; rfl
      · unfold floatToFloatBits at hr
        rw [if_neg (by decide)] at hr
        split at hr
        · cases hr
        · cases hr; exact encode_wf ..
        · split at hr
          · cases hr
          · cases hr; exact encode_wf ..
    | none =>
      refine ⟨(Question.floatToFloat m).cut (w.tape w.drawn (.floatToFloat m)), 1, ⟨fun ho => ?_, ?_⟩, ?_⟩
      · rw [cn_of_num h] at ho
        simp [ovf, h, hr] at ho
      · have : (Question.floatToFloat m).cut (w.tape w.drawn (.floatToFloat m)) < 2 ^ 32 := Nat.mod_lt _ (by decide)
        simpa [Lit.wf] using this
      · have e' : (convert S D (.float .f64 m)).run P w = (Sem.bind (choose (.floatToFloat m)) fun t => Sem.pure (.float .f32 t)).run P w := by
          simp only [convert, Sem.run_bind, run_underlying hs, run_underlying hd, Result.andThen_ok, Conv.floatToFloat]
          rw [if_neg (by decide)]
          unfold floatToFloatBits at hr
          rw [if_neg (by decide)] at hr
          split at hr
          · rename_i he; unfold nn at h; rw [he] at h; simp [Ieee.Datum.isNaN] at h
          · cases hr
          · rename_i sg mm ee he
            split at hr
            · rename_i hi
              rw [he]
              simp only [hi, if_true]
              rfl
            · cases hr
        rw [e']
        exact run_choose _ rfl _ w
  · have hc := nan_conv_wf .f32 m (w.tape w.drawn (.nanConv .f32 m))
    refine ⟨_, 1, ⟨fun _ => ?_, hc.2⟩, run_cvt_nan hs hd (by decide) m w h⟩
    rw [cn_of_nan hc.1, cn_of_nan h, cvd, ftf_nan (by decide) (nn_qn _)]; rfl

variable {ops : Array Oper} {Q : Exit → Act → World → Prop} {rest : List Oper} {o : Oper} {a : Act} {w : World}
theorem wp_up {K : Act → World → Prop} {S D : TypeId} (hs : P.underlying S = some (.float .f32)) (hd : P.underlying D = some (.float .f64)) (x : Operand) (ho : o.op = .convert S D x) (m : Nat)
    (hx : a.eval x = .float .f32 m) (h : ∀ r j, UR m r → K (a.put o.dst (.float .f64 r)) (w.drewN j)) : o.wp P a w K Q := by
  obtain ⟨r, j, hr, hw⟩ := run_up hs hd m w
  unfold Oper.wp execOp
  simp only [ho, hx, Sem.run_bind, Sem.run_pure, Result.andThen_ok, hw]
  exact h r j hr
theorem wpList_up (hgd : o.guard = none) {S D : TypeId} (hs : P.underlying S = some (.float .f32)) (hd : P.underlying D = some (.float .f64)) (x : Operand) (ho : o.op = .convert S D x) (m : Nat)
    (hx : a.eval x = .float .f32 m) (h : ∀ r j, UR m r → wpList P ops Q rest (a.put o.dst (.float .f64 r)) (w.drewN j)) : wpList P ops Q (o :: rest) a w :=
  wpList_plain hgd fun _ hK => wp_up hs hd x ho m hx fun r j hr => hK _ _ (h r j hr)
theorem wp_down {K : Act → World → Prop} {S D : TypeId} (hs : P.underlying S = some (.float .f64)) (hd : P.underlying D = some (.float .f32)) (x : Operand) (ho : o.op = .convert S D x) (m : Nat)
    (hx : a.eval x = .float .f64 m) (h : ∀ r j, DR m r → K (a.put o.dst (.float .f32 r)) (w.drewN j)) : o.wp P a w K Q := by
  obtain ⟨r, j, hr, hw⟩ := run_down hs hd m w
  unfold Oper.wp execOp
  simp only [ho, hx, Sem.run_bind, Sem.run_pure, Result.andThen_ok, hw]
  exact h r j hr
theorem wpList_down (hgd : o.guard = none) {S D : TypeId} (hs : P.underlying S = some (.float .f64)) (hd : P.underlying D = some (.float .f32)) (x : Operand) (ho : o.op = .convert S D x) (m : Nat)
    (hx : a.eval x = .float .f64 m) (h : ∀ r j, DR m r → wpList P ops Q rest (a.put o.dst (.float .f32 r)) (w.drewN j)) : wpList P ops Q (o :: rest) a w :=
  wpList_plain hgd fun _ hK => wp_down hs hd x ho m hx fun r j hr => hK _ _ (h r j hr)
end
end Go.Proofs.YtbgldggaiefhoaaDoor

/- What every frame of this seat uses: the program's closed facts, and the post of a law's walk. -/
namespace Go.Proofs.YtbgldggaiefhoaaDoor
open Go.RowKit

theorem own : ownKnob Tryd.prog.godebug = none := by kernel_rfl
theorem laidOut : laidOutB Tryd.prog = true := by kernel_rfl

/-- the law answers true, and nothing that was there has turned -/
def Tru (w : World) (e : Ending) (w' : World) : Prop := e = .returned (.bool true) ∧ Below w.heap.size w w'

theorem below_drewN {B : Nat} {a w : World} (h : Below B a w) (n : Nat) : Below B a (w.drewN n) := ⟨h.os, h.tape, h.output, h.size, h.block⟩
theorem below_undrew {B : Nat} {a w : World} {n : Nat} (h : Below B (a.drewN n) w) : Below B a w := ⟨h.os, h.tape, h.output, h.size, h.block⟩
theorem below_step {w w1 w2 : World} (h : Below w.heap.size w w1) (h2 : Below w1.heap.size w1 w2) : Below w.heap.size w w2 := h.trans (h2.mono h.size)
theorem Tru.below {w w' : World} (h : Below w.heap.size w w') : Tru w (.returned (.bool true)) w' := ⟨rfl, h⟩
theorem Tru.same {w : World} : Tru w (.returned (.bool true)) w := ⟨rfl, Below.refl _ _⟩
theorem Tru.drewN {w : World} {n : Nat} : Tru w (.returned (.bool true)) (w.drewN n) := ⟨rfl, below_drewN (Below.refl _ _) n⟩

end Go.Proofs.YtbgldggaiefhoaaDoor

/- The order of two floats as the order of two integers that are read off their bits. -/
namespace Go.Proofs.YtbgldggaiefhoaaDoor

def mg (f : Ieee.Format) (r : Nat) : Nat := if r < f.binade then r else f.binade + r % f.binade
def ex (f : Ieee.Format) (r : Nat) : Nat := r / f.binade - 1
def vl (f : Ieee.Format) (r : Nat) : Nat := mg f r * 2 ^ ex f r

theorem binade_pos (f : Ieee.Format) : 0 < f.binade := Nat.two_pow_pos _

theorem vl_lt (f : Ieee.Format) {a b : Nat} (h : a < b) : vl f a < vl f b := by
  have hB := binade_pos f
  unfold vl mg ex
  generalize f.binade = B at *
  have ma := Nat.mod_lt a hB
  have mb := Nat.mod_lt b hB
  have da := Nat.div_add_mod a B
  have db := Nat.div_add_mod b B
  by_cases h1 : a < B
  · have ea : a / B = 0 := Nat.div_eq_of_lt h1
    rw [if_pos h1, ea]
    by_cases h2 : b < B
    · rw [if_pos h2, Nat.div_eq_of_lt h2]; simpa using h
    · rw [if_neg h2]
      have p : 0 < 2 ^ (b / B - 1) := Nat.two_pow_pos _
      have : B + b % B ≤ (B + b % B) * 2 ^ (b / B - 1) := Nat.le_mul_of_pos_right _ p
      simp only [Nat.zero_sub, Nat.pow_zero, Nat.mul_one]
      omega
  · have h2 : ¬ b < B := by omega
    rw [if_neg h1, if_neg h2]
    have qa : 1 ≤ a / B := (Nat.one_le_div_iff hB).2 (by omega)
    have qle : a / B ≤ b / B := Nat.div_le_div_right (by omega)
    by_cases hq : a / B = b / B
    · rw [hq] at da ⊢
      have : a % B < b % B := by omega
      exact Nat.mul_lt_mul_of_pos_right (by omega) (Nat.two_pow_pos _)
    · have l1 : (B + a % B) * 2 ^ (a / B - 1) < (B + B) * 2 ^ (a / B - 1) := Nat.mul_lt_mul_of_pos_right (by omega) (Nat.two_pow_pos _)
      have l2 : (B + B) * 2 ^ (a / B - 1) = B * 2 ^ (a / B) := by
        rw [← Nat.two_mul, Nat.mul_comm 2 B, Nat.mul_assoc, ← Nat.pow_succ']
        congr 2; omega
      have l3 : B * 2 ^ (a / B) ≤ B * 2 ^ (b / B - 1) := Nat.mul_le_mul_left _ (Nat.pow_le_pow_right (by decide) (by omega))
      have l4 : B * 2 ^ (b / B - 1) ≤ (B + b % B) * 2 ^ (b / B - 1) := Nat.mul_le_mul_right _ (by omega)
      omega

theorem vl_lt_iff (f : Ieee.Format) (a b : Nat) : vl f a < vl f b ↔ a < b := by
  refine ⟨fun h => ?_, vl_lt f⟩
  rcases Nat.lt_trichotomy a b with h1 | h1 | h1
  · exact h1
  · subst h1; omega
  · have := vl_lt f h1; omega

theorem scaled (f : Ieee.Format) (r n : Nat) (h : n ≤ ex f r) : (mg f r <<< (ex f r - n)) * 2 ^ n = vl f r := by
  unfold vl
  rw [Nat.shiftLeft_eq, Nat.mul_assoc, ← Nat.pow_add]
  congr 2; omega

/-- the integer that a word's place in the order is -/
def key (f : Ieee.Format) (x : Nat) : Int := if x / f.signWeight % 2 == 1 then -((x % f.signWeight : Nat) : Int) else ((x % f.signWeight : Nat) : Int)
def notNan (f : Ieee.Format) (x : Nat) : Prop := x % f.signWeight ≤ f.infRung

theorem read_fin (f : Ieee.Format) (x : Nat) (h : x % f.signWeight < f.infRung) :
    f.read x = .number (x / f.signWeight % 2 == 1) (mg f (x % f.signWeight)) (f.leastPlace + (ex f (x % f.signWeight) : Nat)) := by
  unfold Ieee.Format.read mg ex
  dsimp only
  by_cases h1 : x % f.signWeight < f.binade
  · rw [if_pos h1, if_pos h1, Nat.div_eq_of_lt h1]; simp
  · rw [if_neg h1, if_neg h1, if_pos h]

theorem read_inf (f : Ieee.Format) (x : Nat) (h : x % f.signWeight = f.infRung) (hb : f.binade ≤ f.infRung) : f.read x = .infinity (x / f.signWeight % 2 == 1) := by
  unfold Ieee.Format.read
  dsimp only
  rw [if_neg (by omega), if_neg (by omega), if_pos h]

theorem compare_congr {x y x' y' : Int} (h1 : x < y ↔ x' < y') (h2 : x = y ↔ x' = y') : compare x y = compare x' y' := by
  simp only [compare, compareOfLessAndEq]
  by_cases a : x < y
  · rw [if_pos a, if_pos (h1.1 a)]
  · rw [if_neg a, if_neg (fun b => a (h1.2 b))]
    by_cases c : x = y
    · rw [if_pos c, if_pos (h2.1 c)]
    · rw [if_neg c, if_neg (fun b => c (h2.2 b))]

theorem order_key (f : Ieee.Format) (hb : f.binade ≤ f.infRung) (hi : 0 < f.infRung) (x y : Nat) (hx : notNan f x) (hy : notNan f y) : f.order x y = some (compare (key f x) (key f y)) := by
  unfold notNan at hx hy
  unfold Ieee.Format.order key
  generalize hs : (x / f.signWeight % 2 == 1) = s
  generalize ht : (y / f.signWeight % 2 == 1) = t
  by_cases h1 : x % f.signWeight < f.infRung
  · rw [read_fin f x h1, hs]
    generalize x % f.signWeight = a at *
    by_cases h2 : y % f.signWeight < f.infRung
    · rw [read_fin f y h2, ht]
      generalize y % f.signWeight = b at *
      simp only [Ieee.Datum.order]
      congr 1
      have e1 : (f.leastPlace + (ex f a : Int) - min (f.leastPlace + (ex f a : Int)) (f.leastPlace + (ex f b : Int))).toNat = ex f a - min (ex f a) (ex f b) := by omega
      have e2 : (f.leastPlace + (ex f b : Int) - min (f.leastPlace + (ex f a : Int)) (f.leastPlace + (ex f b : Int))).toNat = ex f b - min (ex f a) (ex f b) := by omega
      rw [e1, e2]
      have sa := scaled f a (min (ex f a) (ex f b)) (Nat.min_le_left _ _)
      have sb := scaled f b (min (ex f a) (ex f b)) (Nat.min_le_right _ _)
      have hp : 0 < 2 ^ min (ex f a) (ex f b) := Nat.two_pow_pos _
      have v1 := vl_lt_iff f a b
      have v2 := vl_lt_iff f b a
      have z1 := vl_lt_iff f 0 a
      have z2 := vl_lt_iff f 0 b
      have v0 : vl f 0 = 0 := by unfold vl mg; rw [if_pos (binade_pos f)]; simp
      rw [v0] at z1 z2
      rw [← sa, ← sb] at v1 v2
      rw [← sa] at z1
      rw [← sb] at z2
      simp only [Ieee.signed]
      generalize mg f a <<< (ex f a - min (ex f a) (ex f b)) = A at *
      generalize mg f b <<< (ex f b - min (ex f a) (ex f b)) = C at *
      generalize 2 ^ min (ex f a) (ex f b) = D at *
      have w1 : A < C ↔ a < b := by rw [← v1]; exact ⟨fun h => Nat.mul_lt_mul_of_pos_right h hp, fun h => Nat.lt_of_mul_lt_mul_right h⟩
      have w2 : C < A ↔ b < a := by rw [← v2]; exact ⟨fun h => Nat.mul_lt_mul_of_pos_right h hp, fun h => Nat.lt_of_mul_lt_mul_right h⟩
      have w3 : 0 < A ↔ 0 < a := by rw [← z1]; exact ⟨fun h => Nat.mul_pos h hp, fun h => Nat.pos_of_mul_pos_right h⟩
      have w4 : 0 < C ↔ 0 < b := by rw [← z2]; exact ⟨fun h => Nat.mul_pos h hp, fun h => Nat.pos_of_mul_pos_right h⟩
      clear v1 v2 z1 z2 sa sb e1 e2 hs ht h1 h2 hx hy
      apply compare_congr <;> cases s <;> cases t <;> simp only [if_true, if_false, Bool.false_eq_true] <;> omega
    · have h3 : y % f.signWeight = f.infRung := by omega
      rw [read_inf f y h3 hb, ht, h3]
      simp only [Ieee.Datum.order]
      congr 1
      cases t
      · simp only [Bool.false_eq_true, if_false, compare, compareOfLessAndEq]
        rw [if_pos (by split <;> omega)]
      · simp only [if_true, compare, compareOfLessAndEq]
        rw [if_neg (by split <;> omega), if_neg (by split <;> omega)]
  · have h3 : x % f.signWeight = f.infRung := by omega
    rw [read_inf f x h3 hb, hs, h3]
    by_cases h2 : y % f.signWeight < f.infRung
    · rw [read_fin f y h2, ht]
      simp only [Ieee.Datum.order]
      congr 1
      cases s
      · simp only [Bool.false_eq_true, if_false, compare, compareOfLessAndEq]
        rw [if_neg (by split <;> omega), if_neg (by split <;> omega)]
      · simp only [if_true, compare, compareOfLessAndEq]
        rw [if_pos (by split <;> omega)]
    · have h4 : y % f.signWeight = f.infRung := by omega
      rw [read_inf f y h4 hb, ht, h4]
      simp only [Ieee.Datum.order]
      congr 1
      have hI : (0 : Int) < (f.infRung : Int) := by omega
      generalize (f.infRung : Int) = I at *
      cases s <;> cases t
      · show Ordering.eq = compare I I
        simp only [compare, compareOfLessAndEq]
        rw [if_neg (by omega), if_pos trivial]
      · show Ordering.gt = compare I (-I)
        simp only [compare, compareOfLessAndEq]
        rw [if_neg (by omega), if_neg (by omega)]
      · show Ordering.lt = compare (-I) I
        simp only [compare, compareOfLessAndEq]
        rw [if_pos (by omega)]
      · show Ordering.eq = compare (-I) (-I)
        simp only [compare, compareOfLessAndEq]
        rw [if_neg (by omega), if_pos trivial]

theorem nn_iff (k : FloatKind) (x : Nat) : nn k x = false ↔ notNan k.format x := by
  unfold nn notNan FloatKind.decode
  have hb : k.format.binade ≤ k.format.infRung := by cases k <;> decide
  constructor
  · intro h
    by_cases h1 : x % k.format.signWeight ≤ k.format.infRung
    · exact h1
    · exfalso
      unfold Ieee.Format.read at h
      dsimp only at h
      rw [if_neg (by omega), if_neg (by omega), if_neg (by omega)] at h
      simp [Ieee.Datum.isNaN] at h
  · intro h
    by_cases h1 : x % k.format.signWeight < k.format.infRung
    · rw [read_fin _ x h1]; rfl
    · rw [read_inf _ x (by omega) hb]; rfl

/-- the order of two numbers of one kind -/
theorem ord_key (k : FloatKind) (x y : Nat) : k.format.order x y = if nn k x || nn k y then none else some (compare (key k.format x) (key k.format y)) := by
  have hb : k.format.binade ≤ k.format.infRung := by cases k <;> decide
  have hi : 0 < k.format.infRung := by cases k <;> decide
  cases hx : nn k x
  · cases hy : nn k y
    · exact order_key _ hb hi x y ((nn_iff k x).1 hx) ((nn_iff k y).1 hy)
    · have := order_cn k x y
      rw [← this, cn_of_nan hy]
      cases hh : k.format.order (cn k x) (qn k) with
      | none => rfl
      | some o =>
        exfalso
        have e : k.format.order (cn k x) (qn k) = none := by
          obtain ⟨s, t, e⟩ := decode_nan (nn_qn k)
          cases ha : k.format.read (cn k x) <;> simp [Ieee.Format.order, e, ha, Ieee.Datum.order]
        rw [e] at hh; cases hh
  · have := order_cn k x y
    rw [← this, cn_of_nan hx]
    obtain ⟨s, t, e⟩ := decode_nan (nn_qn k)
    cases ha : k.format.read (cn k y) <;> simp [Ieee.Format.order, e, ha, Ieee.Datum.order]

end Go.Proofs.YtbgldggaiefhoaaDoor

/- Finite numbers, subnormal numbers, absolute values, and the masks by which bits are told. -/
namespace Go.Proofs.YtbgldggaiefhoaaDoor

/-- a number that is finite -/
def fin (k : FloatKind) (b : Nat) : Bool := !nn k b && !(k.decode b).isInfinity

theorem fin_nan {k : FloatKind} {b : Nat} (h : nn k b = true) : fin k b = false := by simp [fin, h]
theorem fin_cn (k : FloatKind) (b : Nat) : fin k (cn k b) = fin k b := by
  cases h : nn k b
  · rw [cn_of_num h]
  · rw [cn_of_nan h, fin_nan h, fin_nan (nn_qn k)]

theorem fin_number {k : FloatKind} {b : Nat} (h : fin k b = true) : ∃ s m e, k.format.read b = .number s m e := by
  unfold fin nn FloatKind.decode at h
  cases e : k.format.read b with
  | number s m i => exact ⟨s, m, i, rfl⟩
  | infinity s => rw [e] at h; simp [Ieee.Datum.isInfinity] at h
  | nan s t => rw [e] at h; simp [Ieee.Datum.isNaN] at h

theorem inf_of {k : FloatKind} {b : Nat} (h : fin k b = false) (hn : nn k b = false) : ∃ s, k.format.read b = .infinity s := by
  unfold fin at h
  rw [hn] at h
  unfold nn FloatKind.decode at hn
  unfold FloatKind.decode at h
  cases e : k.format.read b with
  | number s m i => rw [e] at h; simp [Ieee.Datum.isInfinity] at h
  | infinity s => exact ⟨s, rfl⟩
  | nan s t => rw [e] at hn; simp [Ieee.Datum.isNaN] at hn

theorem sub_self_fin {k : FloatKind} {b : Nat} (h : fin k b = true) : floatBits .sub k b b = some 0 := by
  obtain ⟨s, m, e, hr⟩ := fin_number h
  unfold floatBits Ieee.Format.sub
  simp only [hr, Ieee.Datum.opposite, Ieee.Datum.sum]
  have hz : Ieee.signed s m (e - min e e).toNat + Ieee.signed (!s) m (e - min e e).toNat = 0 := by
    unfold Ieee.signed; cases s <;> simp <;> omega
  rw [hz]
  cases s <;> cases k <;> rfl

theorem sub_self_inf {k : FloatKind} {b : Nat} (h : fin k b = false) : floatBits .sub k b b = none := by
  cases hn : nn k b
  · obtain ⟨s, hr⟩ := inf_of h hn
    unfold floatBits Ieee.Format.sub
    simp only [hr, Ieee.Datum.opposite, Ieee.Datum.sum]
    cases s <;> rfl
  · exact floatBits_nan_left hn

theorem zero_self (k : FloatKind) : k.format.order 0 0 = some .eq := by cases k <;> rfl
theorem qn_order (k : FloatKind) (z : Nat) : k.format.order (qn k) z = none := by
  obtain ⟨s, t, e⟩ := decode_nan (nn_qn k)
  cases ha : k.format.read z <;> simp [Ieee.Format.order, e, ha, Ieee.Datum.order]

/-- what is taken from itself is zero for finite numbers alone -/
theorem sub_zero {k : FloatKind} {a r : Nat} (h : FR .sub k a a r) : (k.format.order r 0 == some .eq) = fin k a := by
  rw [← order_cn k r 0, h.1, fop, floatBits_cn]
  have h0 : cn k 0 = 0 := by cases k <;> rfl
  cases hf : fin k a
  · rw [sub_self_inf hf]
    show (k.format.order (qn k) (cn k 0) == some .eq) = false
    rw [qn_order]; rfl
  · rw [sub_self_fin hf]
    show (k.format.order 0 (cn k 0) == some .eq) = true
    rw [h0, zero_self]; rfl

theorem fin_write_inf {d : FloatKind} (s : Bool) : fin d (d.encode (.infinity s)) = false := by cases d <;> cases s <;> rfl

/-- a 32-bit number made a 64-bit one is finite as it was -/
theorem fin_up {a r : Nat} (h : UR a r) : fin .f64 r = fin .f32 a := by
  rw [← fin_cn .f64 r, h.1, ← fin_cn .f32 a]
  generalize hc : cn .f32 a = c
  cases hn : nn .f32 c
  · obtain ⟨u, hu⟩ := up_some hn
    rw [cvu, hu]
    show fin .f64 u = _
    unfold floatToFloatBits at hu
    rw [if_neg (by decide)] at hu
    split at hu
    · cases hu
    · rename_i s he
      cases hu
      rw [fin_write_inf]
      symm
      unfold fin
      rw [he]; simp [Ieee.Datum.isInfinity]
    · rename_i s m e he
      split at hu
      · cases hu
      · rename_i hi
        cases hu
        have e1 : nn .f64 (FloatKind.f64.encode (.number s m e)) = false := read_write Ieee.double (.number s m e) rfl
        have e2 : nn .f32 c = false := hn
        unfold fin
        rw [e1, e2, he]
        simp only [Bool.not_false, Bool.true_and]
        rw [show (FloatKind.f64.decode (FloatKind.f64.encode (.number s m e))).isInfinity = false from by simpa using hi]
        rfl
  · rw [cvu, ftf_nan (by decide) hn, fin_nan hn]
    rfl

theorem nn_up {a r : Nat} (h : UR a r) : nn .f64 r = nn .f32 a := by
  rw [← nn_cn .f64 r, h.1, ← nn_cn .f32 a]
  generalize cn .f32 a = c
  cases hn : nn .f32 c
  · obtain ⟨u, hu⟩ := up_some hn
    rw [cvu, hu]
    exact ftf_num (by decide) hu
  · rw [cvu, ftf_nan (by decide) hn]; rfl

theorem wf32 {a : Nat} (h : (Lit.float .f32 a).wf = true) : a < 4294967296 := by simpa [Lit.wf] using h
theorem wf64 {a : Nat} (h : (Lit.float .f64 a).wf = true) : a < 18446744073709551616 := by simpa [Lit.wf] using h

theorem single_sw : FloatKind.f32.format.signWeight = 2147483648 := by decide
theorem double_sw : FloatKind.f64.format.signWeight = 9223372036854775808 := by decide
theorem single_inf : FloatKind.f32.format.infRung = 2139095040 := by decide

/-- which bits are a not-a-number -/
theorem nn32 (a : Nat) : nn .f32 a = decide (2139095040 < a % 2147483648) := by
  have := nn_iff .f32 a
  unfold notNan at this
  rw [single_sw, single_inf] at this
  cases h : nn .f32 a
  · have := this.1 h; symm; simp; omega
  · symm; simp
    by_cases hx : a % 2147483648 ≤ 2139095040
    · rw [this.2 hx] at h; cases h
    · omega
theorem nn64 (a : Nat) : nn .f64 a = decide (9218868437227405312 < a % 9223372036854775808) := by
  have := nn_iff .f64 a
  unfold notNan at this
  rw [double_sw, show FloatKind.f64.format.infRung = 9218868437227405312 from by decide] at this
  cases h : nn .f64 a
  · have := this.1 h; symm; simp; omega
  · symm; simp
    by_cases hx : a % 9223372036854775808 ≤ 9218868437227405312
    · rw [this.2 hx] at h; cases h
    · omega

theorem fin64 (a : Nat) : fin .f64 a = decide (a % 9223372036854775808 < 9218868437227405312) := by
  have h2 := read_fin FloatKind.f64.format a
  have h3 := read_inf FloatKind.f64.format a
  rw [double_sw, show FloatKind.f64.format.infRung = 9218868437227405312 from by decide] at h2 h3
  unfold fin
  rw [nn64]
  by_cases h : a % 9223372036854775808 < 9218868437227405312
  · unfold FloatKind.decode
    rw [h2 h]
    simp [Ieee.Datum.isInfinity, h]; omega
  · by_cases h' : a % 9223372036854775808 = 9218868437227405312
    · unfold FloatKind.decode
      rw [h3 h' (by decide)]
      simp [Ieee.Datum.isInfinity, h]
    · simp [h]; omega

theorem i64_and_nat (a b : Nat) (ha : a < 9223372036854775808) (hb : b < 9223372036854775808) : bits .and .i64 (a : Int) (b : Int) = ((a &&& b : Nat) : Int) := by
  have hle : a &&& b ≤ a := Nat.and_le_left
  show IntKind.i64.wrap ((BitVec.ofInt 64 (a : Int) &&& BitVec.ofInt 64 (b : Int)).toNat : Int) = _
  rw [BitVec.toNat_and, ofInt_u64 a (by omega), ofInt_u64 b (by omega)]
  exact IntWalk.i64_in _ (by omega)

/-- the exponent's bits alone -/
theorem exp_mask (a : Nat) (h : a < 4294967296) : bits .and .i64 (a : Int) 2139095040 = ((a % 2147483648 / 8388608 * 8388608 : Nat) : Int) := by
  rw [show (2139095040 : Int) = ((2139095040 : Nat) : Int) from rfl, i64_and_nat a _ (by omega) (by decide)]
  congr 1
  have e : a &&& 2139095040 = a % 2147483648 / 8388608 * 8388608 := by
    apply Nat.eq_of_testBit_eq
    intro i
    rw [Nat.testBit_and, show (8388608 : Nat) = 2 ^ 23 from rfl, Nat.testBit_mul_two_pow, Nat.testBit_div_two_pow, show (2147483648 : Nat) = 2 ^ 31 from rfl, Nat.testBit_mod_two_pow,
      show (2139095040 : Nat) = (2 ^ 8 - 1) * 2 ^ 23 from rfl, Nat.testBit_mul_two_pow, Nat.testBit_two_pow_sub_one]
    by_cases h1 : 23 ≤ i
    · simp [h1]
      by_cases h2 : i < 31
      · simp [h2, show i - 23 < 8 by omega]
      · simp [h2, show ¬ i - 23 < 8 by omega]
    · simp [h1]
  exact e

theorem sign_mask (a : Nat) (h : a < 4294967296) : bits .and .i64 (a : Int) 2147483648 = ((a / 2147483648 * 2147483648 : Nat) : Int) := by
  rw [show (2147483648 : Int) = ((2147483648 : Nat) : Int) from rfl, i64_and_nat a _ (by omega) (by decide)]
  congr 1
  have e : a &&& 2147483648 = a / 2147483648 * 2147483648 := by
    apply Nat.eq_of_testBit_eq
    intro i
    rw [Nat.testBit_and, show (2147483648 : Nat) = 2 ^ 31 from rfl, Nat.testBit_mul_two_pow, Nat.testBit_div_two_pow, Nat.testBit_two_pow]
    by_cases h1 : 31 = i
    · subst h1; simp
    · by_cases h2 : 31 ≤ i
      · simp [h1, h2, show i - 31 + 31 = i by omega]
        exact Nat.testBit_lt_two_pow (Nat.lt_of_lt_of_le (show a < 2 ^ 32 from h) (Nat.pow_le_pow_right (by decide) (by omega)))
      · simp [h1, h2]
  exact e

theorem abs_bits (r : Nat) (h : r < 18446744073709551616) : (bits .andNot .u64 (r : Int) 9223372036854775808).toNat = r % 9223372036854775808 := by
  have := u64_andNot_nat r 9223372036854775808 h (by decide)
  rw [show (9223372036854775808 : Int) = ((9223372036854775808 : Nat) : Int) from rfl, this, Int.toNat_natCast]
  exact Nat.and_two_pow_sub_one_eq_mod r 63

theorem sign_and (r : Nat) (h : r < 18446744073709551616) : r &&& 9223372036854775808 = r / 9223372036854775808 * 9223372036854775808 := by
  apply Nat.eq_of_testBit_eq
  intro i
  rw [Nat.testBit_and, show (9223372036854775808 : Nat) = 2 ^ 63 from rfl, Nat.testBit_mul_two_pow, Nat.testBit_div_two_pow, Nat.testBit_two_pow]
  by_cases h1 : 63 = i
  · subst h1; simp
  · by_cases h2 : 63 ≤ i
    · simp [h1, h2, show i - 63 + 63 = i by omega]
      exact Nat.testBit_lt_two_pow (Nat.lt_of_lt_of_le (show r < 2 ^ 64 from h) (Nat.pow_le_pow_right (by decide) (by omega)))
    · simp [h1, h2]

theorem copysign_bits (r : Nat) (h : r < 18446744073709551616) : (bits BinOp.or IntKind.u64 (bits BinOp.andNot IntKind.u64 0 9223372036854775808) (bits BinOp.and IntKind.u64 (r : Int) 9223372036854775808)).toNat = r / 9223372036854775808 * 9223372036854775808 := by
  have h1 := u64_andNot_nat 0 9223372036854775808 (by decide) (by decide)
  have h2 := u64_and_nat r 9223372036854775808 h (by decide)
  rw [show (9223372036854775808 : Int) = ((9223372036854775808 : Nat) : Int) from rfl, show (0 : Int) = ((0 : Nat) : Int) from rfl, h1, h2, Nat.zero_and, sign_and r h]
  rw [u64_or_nat 0 _ (by decide) (by omega), Nat.zero_or, Int.toNat_natCast]

theorem cmp_gt (x y : Int) : (some (compare x y) == some Ordering.gt) = decide (y < x) := by
  simp only [compare, compareOfLessAndEq]
  by_cases h : x < y
  · rw [if_pos h, decide_eq_false (by omega)]; rfl
  · rw [if_neg h]
    by_cases h' : x = y
    · rw [if_pos h', decide_eq_false (by omega)]; rfl
    · rw [if_neg h', decide_eq_true (by omega)]; rfl
theorem cmp_lt (x y : Int) : (some (compare x y) == some Ordering.lt) = decide (x < y) := by
  simp only [compare, compareOfLessAndEq]
  by_cases h : x < y
  · rw [if_pos h, decide_eq_true h]; rfl
  · rw [if_neg h, decide_eq_false h]
    by_cases h' : x = y
    · rw [if_pos h']; rfl
    · rw [if_neg h']; rfl
theorem cmp_eq (x y : Int) : (some (compare x y) == some Ordering.eq) = decide (x = y) := by
  simp only [compare, compareOfLessAndEq]
  by_cases h : x < y
  · rw [if_pos h, decide_eq_false (by omega)]; rfl
  · rw [if_neg h]
    by_cases h' : x = y
    · rw [if_pos h', decide_eq_true h']; rfl
    · rw [if_neg h', decide_eq_false h']; rfl

theorem key64_pos (x : Nat) (h : x < 9223372036854775808) : key FloatKind.f64.format x = x := by
  unfold key
  rw [double_sw, Nat.div_eq_of_lt h, Nat.mod_eq_of_lt h]
  rfl

/-- greater than the greatest finite number: the infinity alone -/
theorem abs_gt (r : Nat) (h : nn .f64 r = false) : (FloatKind.f64.format.order (r % 9223372036854775808) 9218868437227405311 == some .gt) = !fin .f64 r := by
  rw [nn64] at h
  have h' := of_decide_eq_false h
  rw [ord_key, nn64, nn64, fin64, Nat.mod_mod, decide_eq_false h', decide_eq_false (by decide)]
  simp only [Bool.or_false, Bool.false_eq_true, if_false]
  rw [cmp_gt, key64_pos _ (Nat.mod_lt _ (by decide)), key64_pos _ (by decide)]
  rw [← decide_not]
  exact decide_eq_decide.2 (by omega)
end Go.Proofs.YtbgldggaiefhoaaDoor

/- The entries of package math that have no body: what each hands back. -/
namespace Go.Proofs.YtbgldggaiefhoaaDoor
open Go.RowKit

@[go_sem] theorem ext_f32bits (b : Nat) (w : World) : (callFunc 133 #[.float .f32 b]).run Tryd.prog w = .ok (.value (.int .u32 b)) w := by rw [run_callFunc_extern (e := Extern.MathFloatBits.float32bits) Tryd.func133 (by kernel_rfl) (by kernel_rfl) (by kernel_rfl) (by kernel_rfl)]; rfl
@[go_sem] theorem ext_f64bits (b : Nat) (w : World) : (callFunc 190 #[.float .f64 b]).run Tryd.prog w = .ok (.value (.int .u64 b)) w := by rw [run_callFunc_extern (e := Extern.MathFloatBits.float64bits) Tryd.func190 (by kernel_rfl) (by kernel_rfl) (by kernel_rfl) (by kernel_rfl)]; rfl
@[go_sem] theorem ext_f32from (n : Int) (w : World) : (callFunc 132 #[.int .u32 n]).run Tryd.prog w = .ok (.value (.float .f32 n.toNat)) w := by rw [run_callFunc_extern (e := Extern.MathFloatBits.float32frombits) Tryd.func132 (by kernel_rfl) (by kernel_rfl) (by kernel_rfl) (by kernel_rfl)]; rfl
@[go_sem] theorem ext_f64from (n : Int) (w : World) : (callFunc 189 #[.int .u64 n]).run Tryd.prog w = .ok (.value (.float .f64 n.toNat)) w := by rw [run_callFunc_extern (e := Extern.MathFloatBits.float64frombits) Tryd.func189 (by kernel_rfl) (by kernel_rfl) (by kernel_rfl) (by kernel_rfl)]; rfl
end Go.Proofs.YtbgldggaiefhoaaDoor

/- The laws' own comparison of two 64-bit numbers: it answers true where both are the same up to the bits of a not-a-number. -/
namespace Go.Proofs.YtbgldggaiefhoaaDoor
open Go.RowKit

/-- true, and the world is as it was but for questions -/
def Yes (w : World) (e : Ending) (w' : World) : Prop := e = .returned (.bool true) ∧ ∃ n, w' = w.drewN n
theorem Yes.same {w : World} : Yes w (.returned (.bool true)) w := ⟨rfl, 0, rfl⟩
theorem Yes.drewN {w : World} {n : Nat} : Yes w (.returned (.bool true)) (w.drewN n) := ⟨rfl, n, rfl⟩

theorem FR_order {op op' : BinOp} {k : FloatKind} {m n m' n' r s : Nat} (h : FR op k m n r) (h' : FR op' k m' n' s) (he : fop op k (cn k m) (cn k n) = fop op' k (cn k m') (cn k n')) (z : Nat) :
    k.format.order r z = k.format.order s z := by
  rw [← order_cn k r z, ← order_cn k s z, h.1, h'.1, he]

theorem sameFloat_nan (g x : Nat) (w : World) (hg : FloatKind.f64.format.order g g = none) (hx : FloatKind.f64.format.order x x = none) :
    Calls Tryd.prog 57 #[.float .f64 g, .float .f64 x] w (Yes w) := by
  go_enter Tryd.func57, Tryd.ntmps57
  go_wp2
  go_ret
  exact Yes.same

theorem sameFloat_eq (g : Nat) (w : World) (hg : FloatKind.f64.format.order g g = some .eq) :
    Calls Tryd.prog 57 #[.float .f64 g, .float .f64 g] w (Yes w) := by
  go_enter Tryd.func57, Tryd.ntmps57
  cases h0 : FloatKind.f64.format.order g 0 == some .eq
  · go_wp2
    go_ret
    exact Yes.same
  · go_wp2_with (refine wpList_farith rfl _ _ _ _ _ rfl rfl _ _ _ rfl rfl ?_; intro _ _ _)
    go_ret
    rename_i r1 j1 h1 r2 j2 h2
    refine ⟨?_, _, rfl⟩
    show Ending.returned (.bool ((FloatKind.f64.format.order r1 0 == some Ordering.gt) == (FloatKind.f64.format.order r2 0 == some Ordering.gt))) = _
    rw [FR_order h1 h2 rfl 0]
    simp

/-- numbers that are the same -/
theorem sameFloat_any (g x : Nat) (w : World) (h : cn .f64 g = cn .f64 x) :
    Calls Tryd.prog 57 #[.float .f64 g, .float .f64 x] w (Yes w) := by
  cases hg : nn .f64 g
  · have hx : nn .f64 x = false := by rw [← nn_cn, ← h, nn_cn]; exact hg
    rw [cn_of_num hg, cn_of_num hx] at h
    subst h
    exact sameFloat_eq g w (by rw [order_self, hg]; rfl)
  · have hx : nn .f64 x = true := by rw [← nn_cn, ← h, nn_cn]; exact hg
    exact sameFloat_nan g x w (by rw [order_self, hg]; rfl) (by rw [order_self, hx]; rfl)

theorem UR_same {m m' r r' : Nat} (h : UR m r) (h' : UR m' r') (e : cn .f32 m = cn .f32 m') : cn .f64 r = cn .f64 r' := by rw [h.1, h'.1, e]
/-- a bool, and the world is as it was but for questions -/
def Bol (b : Bool) (w : World) (e : Ending) (w' : World) : Prop := e = .returned (.bool b) ∧ ∃ n, w' = w.drewN n

/-- a 32-bit number, and the world is as it was but for questions -/
def Flo (P : Nat → Prop) (w : World) (e : Ending) (w' : World) : Prop := ∃ r n, P r ∧ (Lit.float .f32 r).wf = true ∧ e = .returned (.float .f32 r) ∧ w' = w.drewN n
def Flo2 (r : Nat) (b : Bool) (w : World) (e : Ending) (w' : World) : Prop := e = .returned (.tuple #[.float .f32 r, .bool b]) ∧ w = w'

/-- the end of an exact law on one 32-bit number -/
theorem same_end {a b r s : Nat} (w : World) (h : UR a r) (h' : UR b s) (e : cn .f32 a = cn .f32 b) : Calls Tryd.prog 57 #[.float .f64 r, .float .f64 s] w (Yes w) :=
  sameFloat_any r s w (UR_same h h' e)
end Go.Proofs.YtbgldggaiefhoaaDoor

/- Blocks of a call's own: what lies in them, and what is kept behind a call. -/
namespace Go.Proofs.YtbgldggaiefhoaaDoor
open Go.RowKit

theorem below_al1 (w : World) (a : Obj) : Below w.heap.size w (w.alloc a) := (Below.refl _ _).alloc (Nat.le_refl _) a
theorem below_al2 (w : World) (a b : Obj) : Below w.heap.size w ((w.alloc a).alloc b) := (below_al1 w a).alloc (by simp) b
theorem below_al3 (w : World) (a b c : Obj) : Below w.heap.size w (((w.alloc a).alloc b).alloc c) := (below_al2 w a b).alloc (by simp; omega) c
theorem below_al4 (w : World) (a b c d : Obj) : Below w.heap.size w ((((w.alloc a).alloc b).alloc c).alloc d) := (below_al3 w a b c).alloc (by simp; omega) d

theorem below_unal {a w : World} {o : Obj} (h : Below (a.alloc o).heap.size (a.alloc o) w) : Below a.heap.size a w := below_step (below_al1 a o) h

/-- a block holds these cells, and may be written -/
def Cells (w : World) (p : Nat) (vs : List Value) : Prop := (∀ i v, vs[i]? = some v → w.cell? ⟨p, i, none⟩ = some v) ∧ (∀ i, w.frozen? ⟨p, i, none⟩ = false) ∧ p < w.heap.size
theorem Cells.at {w : World} {p : Nat} {vs : List Value} (h : Cells w p vs) (i : Nat) {v : Value} (hv : vs[i]? = some v) : w.cell? ⟨p, i, none⟩ = some v := h.1 i v hv
theorem Cells.fz {w : World} {p : Nat} {vs : List Value} (h : Cells w p vs) (i : Nat) : w.frozen? ⟨p, i, none⟩ = false := h.2.1 i
theorem Cells.lt {w : World} {p : Nat} {vs : List Value} (h : Cells w p vs) : p < w.heap.size := h.2.2
theorem Cells.kept {w w' : World} {p : Nat} {vs : List Value} (h : Cells w p vs) (hb : Below w.heap.size w w') : Cells w' p vs :=
  ⟨fun i v hv => (hb.cell (p := ⟨p, i, none⟩) h.lt).trans (h.1 i v hv), fun i => (hb.frozen (p := ⟨p, i, none⟩) h.lt).trans (h.2.1 i), Nat.lt_of_lt_of_le h.lt hb.size⟩
theorem Cells.made (w : World) (vs : List Value) (t : TypeId) : Cells (w.alloc (.cells vs.toArray t)) w.heap.size vs :=
  ⟨fun i v hv => by simpa using hv, fun i => by simp, by simp⟩
theorem Cells.drewN {w : World} {p n : Nat} {vs : List Value} (h : Cells w p vs) : Cells (w.drewN n) p vs := h
theorem Cells.al {w : World} {p : Nat} {vs : List Value} (h : Cells w p vs) (o : Obj) : Cells (w.alloc o) p vs := h.kept (below_al1 w o)

theorem Cells.set {w : World} {p : Nat} {vs : List Value} (h : Cells w p vs) (i : Nat) (hi : i < vs.length) (v : Value) : Cells (w.setCell ⟨p, i, none⟩ v) p (vs.set i v) := by
  refine ⟨fun j u hj => ?_, fun j => by rw [World.frozen?_setCell]; exact h.2.1 j, by simpa using h.2.2⟩
  have hi' : vs[i]? = some vs[i] := List.getElem?_eq_getElem hi
  by_cases e : i = j
  · subst e
    rw [World.cell?_setCell_same _ _ _ (h.1 i _ hi')]
    simp [hi] at hj
    simp [hj]
  · rw [World.cell?_setCell_other _ _ _ _ (by intro e'; cases e'; exact e rfl)]
    rw [List.getElem?_set_ne e] at hj
    exact h.1 j u hj
theorem Cells.far {w : World} {p q : Nat} {vs : List Value} (h : Cells w p vs) (hq : q ≠ p) (i : Nat) (v : Value) : Cells (w.setCell ⟨q, i, none⟩ v) p vs :=
  ⟨fun j u hj => by rw [World.cell?_setCell_other _ _ _ _ (by intro e; cases e; exact hq rfl)]; exact h.1 j u hj, fun j => by rw [World.frozen?_setCell]; exact h.2.1 j, by simpa using h.2.2⟩

end Go.Proofs.YtbgldggaiefhoaaDoor

/- A slice of 32-bit numbers, as a list of their bits: what it is, and such an argument opened. -/
namespace Go.Proofs.YtbgldggaiefhoaaDoor
open Go.RowKit

/-- the value v reads as the list zs of numbers: empty, or a row of cells -/
def FRow (w : World) (v : Value) (zs : List Nat) : Prop :=
  ((∃ a c, v = .slice a 0 c) ∧ zs = []) ∨
  ∃ b off cap, v = .slice (some ⟨b, off, none⟩) zs.length cap ∧ zs.length ≤ maxLen ∧ ∀ i, i < zs.length → w.cell? ⟨b, off + i, none⟩ = some (.float .f32 (zs.getD i 0))

theorem cell_lt {w : World} {b o : Nat} {v : Value} (h : w.cell? ⟨b, o, none⟩ = some v) : b < w.heap.size := by
  unfold World.cell? at h
  by_cases hb : b < w.heap.size
  · exact hb
  · rw [Array.getElem?_eq_none (by simpa using hb)] at h
    simp at h

theorem FRow.below {w w' : World} {v : Value} {zs : List Nat} (h : FRow w v zs) (hb : Below w.heap.size w w') : FRow w' v zs := by
  rcases h with h | ⟨b, off, cap, e, hm, hc⟩
  · exact .inl h
  · refine .inr ⟨b, off, cap, e, hm, fun i hi => ?_⟩
    have := hc i hi
    rw [hb.cell (p := ⟨b, off + i, none⟩) (cell_lt this)]
    exact this

theorem FRow.drewN {w : World} {v : Value} {zs : List Nat} {n : Nat} (h : FRow w v zs) : FRow (w.drewN n) v zs := h


/-- how long a slice is -/
theorem FRow.shape {w : World} {v : Value} {zs : List Nat} (h : FRow w v zs) : ∃ a cap, v = .slice a zs.length cap := by
  rcases h with ⟨h, rfl⟩ | ⟨b, off, cap, rfl, _⟩
  · exact h
  · exact ⟨_, _, rfl⟩

/-- an argument that is a slice of 32-bit numbers -/
theorem open_f32s {H : Type} {enc : TypeId × Value → H} {P : Program} {w : World} {base : Nat} {spare : Nat → Bool} {held : Bool} {t e : TypeId} {a : Option Addr} {len cap : Nat} {d : DataW H} {ps : List MemPlace}
    (ht : P.underlying t = some (.slice e)) (he : P.underlying e = some (.float .f32)) (hc : P.cellsOf e = 1) (h : DataW.Trod enc P w base spare held t (.slice a len cap) d ps) :
    ∃ zs, FRow w (.slice a len cap) zs ∧ ∀ i, i < zs.length → (Lit.float .f32 (zs.getD i 0)).wf = true := by
  obtain ⟨fuel, hf⟩ := h
  rcases Deep.open_slice1 ht hc hf with ⟨hcs, _⟩ | ⟨x, l, c, m, n, V, D, Pl, hcs, _, hl, hm, hmm, _, hV⟩
  · simp [Value.cells] at hcs
    obtain ⟨rfl, rfl, rfl⟩ := hcs
    exact ⟨[], .inl ⟨⟨_, _, rfl⟩, rfl⟩, fun i hi => by simp at hi⟩
  · simp [Value.cells] at hcs
    obtain ⟨rfl, rfl, rfl⟩ := hcs
    have hlm : len ≤ m := by rw [hmm]; split <;> omega
    have hb : ∀ i, i < len → ∃ b, V i = .float .f32 b ∧ (Lit.float .f32 b).wf = true := by
      intro i hi
      have h2 := (hV i (by omega)).2
      cases n with
      | zero => simp [DataW.trod] at h2
      | succ n =>
        cases hv : V i <;> simp [DataW.trod, he, hv] at h2
        rename_i k b
        obtain ⟨⟨rfl, hw⟩, _⟩ := h2
        exact ⟨b, rfl, hw⟩
    obtain ⟨B, hB⟩ := Deep.choose_lt hb
    refine ⟨(List.range len).map B, ?_, fun i hi => ?_⟩
    · by_cases h0 : len = 0
      · subst h0; exact .inl ⟨⟨_, _, rfl⟩, rfl⟩
      · obtain ⟨xb, xo, xs⟩ := x
        have hs : xs = none := by simpa [Addr.add] using World.cell?_spot (hV 0 (by omega)).1
        subst hs
        refine .inr ⟨xb, xo, cap, by simp, by simp; omega, fun i hi => ?_⟩
        have hi' : i < len := by simpa using hi
        have := (hV i (by omega)).1
        rw [(hB i hi').1] at this
        have ea : (⟨xb, xo, none⟩ : Addr).add i = ⟨xb, xo + i, none⟩ := by
          by_cases h : i = 0
          · subst h; simp [Addr.add]
          · simp [Addr.add, h]
        rw [ea] at this
        simpa [hi', List.getD_eq_getElem?_getD] using this
    · have hi' : i < len := by simpa using hi
      simpa [hi', List.getD_eq_getElem?_getD] using (hB i hi').2

/-- a slice that is a whole block of its own -/
abbrev sl (p : Nat) (zs : List Nat) : Value := .slice (some ⟨p, 0, none⟩) zs.length zs.length
def fl (zs : List Nat) : List Value := zs.map (.float .f32)
theorem FRow.of_cells {w : World} {p : Nat} {zs : List Nat} (h : Cells w p (fl zs)) (hm : zs.length ≤ maxLen) : FRow w (sl p zs) zs :=
  .inr ⟨p, 0, _, rfl, hm, fun i hi => by rw [Nat.zero_add]; exact h.1 i _ (by simp [fl, hi, List.getD_eq_getElem?_getD])⟩
theorem ret_b {x b : Bool} (h : x = b) : Ending.returned (.bool b) = Ending.returned (.bool x) := by rw [h]

theorem FRow.cells {w : World} {v : Value} {zs : List Nat} (h : FRow w v zs) (hn : 1 ≤ zs.length) : ∃ b off cap, v = .slice (some ⟨b, off, none⟩) zs.length cap ∧ ∀ i, i < zs.length → w.cell? ⟨b, off + i, none⟩ = some (.float .f32 (zs.getD i 0)) := by
  rcases h with ⟨_, rfl⟩ | ⟨b, off, cap, e, hm, hc⟩
  · simp at hn
  · exact ⟨b, off, cap, e, hc⟩

theorem FRow.len {w : World} {v : Value} {zs : List Nat} (h : FRow w v zs) : zs.length ≤ 9223372036854775807 := by
  rcases h with ⟨_, rfl⟩ | ⟨_, _, _, _, hm, _⟩
  · simp
  · exact hm

end Go.Proofs.YtbgldggaiefhoaaDoor

/- A region that draws its order, whose operations leave the world alone but for questions, AND MAY HAND BACK ANY OF SEVERAL VALUES (a not-a-number's bits): one walk in the order of the text, for every such value, serves every order. After the guide's theorem for one value. -/
namespace Go.Proofs.YtbgldggaiefhoaaDoor

section
variable {P : Program} {ops : Array Oper} {md : Region.Mode} {C : World → Prop} {Sg : FuncId → Array Value → Value → Prop}

def LoGood (P : Program) (C : World → Prop) (Sg : FuncId → Array Value → Value → Prop) : Result Next → Prop
  | .ok (.value _) w' => C w'
  | .ok .skip w' => C w'
  | .ok (.enter f args) w' => C w' ∧ Calls P f args w' (fun e w'' => ∃ v, e = .returned v ∧ Sg f args v ∧ C w'')
  | _ => False

def LoVal (Sg : FuncId → Array Value → Value → Prop) (v : Value) : Result Next → Prop
  | .ok (.value u) _ => v = u
  | .ok .skip _ => v = undef
  | .ok (.enter f args) _ => Sg f args v
  | _ => False

def good (P : Program) (C : World → Prop) (Sg : FuncId → Array Value → Value → Prop) (o : Oper) (a : Act) : Prop := ∀ w, C w → LoGood P C Sg ((execOp a.eval o).run P w)
def val (P : Program) (C : World → Prop) (Sg : FuncId → Array Value → Value → Prop) (o : Oper) (a : Act) (v : Value) : Prop := ∃ w, C w ∧ LoVal Sg v ((execOp a.eval o).run P w)

def loose (P : Program) (C : World → Prop) (Sg : FuncId → Array Value → Value → Prop) (o : Oper) (a : Act) (next : Act → Prop) : Prop := good P C Sg o a ∧ ∀ v, val P C Sg o a v → next (a.put o.dst v)

def wpLoose (P : Program) (ops : Array Oper) (C : World → Prop) (Sg : FuncId → Array Value → Value → Prop) (Q : Act → Prop) : List Oper → Act → Prop
  | [], a => Q a
  | o :: rest, a => if Region.wanted o (yielded ops a.tmps) then loose P C Sg o a (wpLoose P ops C Sg Q rest) else wpLoose P ops C Sg Q rest (a.put o.dst undef)

/-- Is it wanted, and then good; what it may leave. -/
def LGood (P : Program) (ops : Array Oper) (C : World → Prop) (Sg : FuncId → Array Value → Value → Prop) (o : Oper) (a : Act) : Prop := Region.wanted o (yielded ops a.tmps) = true → good P C Sg o a
def LVal (P : Program) (ops : Array Oper) (C : World → Prop) (Sg : FuncId → Array Value → Value → Prop) (o : Oper) (a : Act) (v : Value) : Prop :=
  (Region.wanted o (yielded ops a.tmps) = true ∧ val P C Sg o a v) ∨ (Region.wanted o (yielded ops a.tmps) = false ∧ v = undef)

def lOp (P : Program) (ops : Array Oper) (C : World → Prop) (Sg : FuncId → Array Value → Value → Prop) (i : Nat) (K : Act → Prop) (a : Act) : Prop :=
  match ops[i]? with
  | none => K a
  | some o => LGood P ops C Sg o a ∧ ∀ v, LVal P ops C Sg o a v → K (a.put o.dst v)

def wpAnyL (P : Program) (md : Region.Mode) (ops : Array Oper) (C : World → Prop) (Sg : FuncId → Array Value → Value → Prop) (Q : Act → Prop) : Nat → Array Bool → Act → Prop
  | 0, listed, a => Region.ready md ops listed = [] ∧ Q a
  | fuel + 1, listed, a =>
    (Region.ready md ops listed = [] → Q a) ∧
    ∀ i ∈ Region.ready md ops listed, lOp P ops C Sg i (wpAnyL P md ops C Sg Q fuel (listed.setIfInBounds i true)) a

theorem wp_of_loose {o : Oper} {a : Act} {K : Act → Prop} {K' : Act → World → Prop} {Q' : Exit → Act → World → Prop} {w : World} (hw : C w) (h : ∀ a w', C w' → K a → K' a w')
    (hg : good P C Sg o a) (hv : ∀ v, val P C Sg o a v → K (a.put o.dst v)) : o.wp P a w K' Q' := by
  have h3 := hg w hw
  have h4 : ∀ v, LoVal Sg v ((execOp a.eval o).run P w) → K (a.put o.dst v) := fun v hv' => hv v ⟨w, hw, hv'⟩
  unfold Oper.wp
  generalize (execOp a.eval o).run P w = r at *
  cases r with
  | ok n w' =>
    cases n <;> simp only [LoGood] at h3 <;> simp only [Oper.upon]
    case value u => exact h _ _ h3 (h4 u rfl)
    case skip => exact h _ _ h3 (h4 undef rfl)
    case enter f args =>
      exact h3.2.mono fun e w'' ⟨v, he, hs, hc⟩ => by subst he; exact h _ _ hc (h4 v hs)
  | halt x w' => simp only [LoGood] at h3

theorem wpOp_of_lOp {i : Nat} {a : Act} {K : Act → Prop} {K' : Act → World → Prop} {Q' : Exit → Act → World → Prop} {w : World} (hC : C w) (h : ∀ a w', C w' → K a → K' a w') (hh : lOp P ops C Sg i K a) : wpOp P ops Q' i K' a w := by
  unfold lOp at hh
  unfold wpOp
  split
  · rename_i ho; simp only [ho] at hh; exact h _ _ hC hh
  · rename_i o ho
    simp only [ho] at hh
    split
    · rename_i hw; exact .inl (wp_of_loose hC h (hh.1 hw) fun v hv => hh.2 v (.inl ⟨hw, hv⟩))
    · rename_i hw; exact h _ _ hC (hh.2 undef (.inr ⟨by simpa using hw, rfl⟩))

theorem wpAny_of_loose {Q : Act → Prop} {Q' : Exit → Act → World → Prop} (hQ : ∀ a w, C w → Q a → Q' .normal a w) : ∀ (fuel : Nat) (listed : Array Bool) (a : Act) (w : World), C w →
    wpAnyL P md ops C Sg Q fuel listed a → wpAny P md ops Q' fuel listed a w
  | 0, _, _, _, hw, h => ⟨h.1, hQ _ _ hw h.2⟩
  | fuel + 1, _, _, _, hw, h => ⟨fun h0 => hQ _ _ hw (h.1 h0), fun i hi => wpOp_of_lOp hw (fun a' w' hw' => wpAny_of_loose hQ fuel _ a' w' hw') (h.2 i hi)⟩

/-- there is a value that it may leave -/
theorem some_val {o : Oper} {a : Act} {w : World} (hw : C w) (hg : LGood P ops C Sg o a) : ∃ v, LVal P ops C Sg o a v := by
  by_cases h : Region.wanted o (yielded ops a.tmps) = true
  · have h3 := hg h w hw
    have : ∃ v, LoVal Sg v ((execOp a.eval o).run P w) := by
      generalize (execOp a.eval o).run P w = r at *
      cases r with
      | ok n w' =>
        cases n <;> simp only [LoGood] at h3
        case value u => exact ⟨u, rfl⟩
        case skip => exact ⟨undef, rfl⟩
        case enter f args =>
          obtain ⟨e, w'', fr, ⟨v, _, hs, _⟩, _⟩ := h3.2 []
          exact ⟨v, hs⟩
      | halt x w' => simp only [LoGood] at h3
    obtain ⟨v, hv⟩ := this
    exact ⟨v, .inl ⟨h, w, hw, hv⟩⟩
  · exact ⟨undef, .inr ⟨by simpa using h, rfl⟩⟩

theorem LGood.of_same {o : Oper} {a a' : Act} (h : LGood P ops C Sg o a) (he : execOp a'.eval o = execOp a.eval o)
    (hw : Region.wanted o (yielded ops a'.tmps) = Region.wanted o (yielded ops a.tmps)) : LGood P ops C Sg o a' := by
  unfold LGood good at *
  rw [he, hw]
  exact h

theorem LVal.of_same {o : Oper} {a a' : Act} {v : Value} (h : LVal P ops C Sg o a v) (he : execOp a'.eval o = execOp a.eval o)
    (hw : Region.wanted o (yielded ops a'.tmps) = Region.wanted o (yielded ops a.tmps)) : LVal P ops C Sg o a' v := by
  unfold LVal val at *
  rw [he, hw]
  exact h

theorem wpAnyL_first {Q : Act → Prop} {i : Nat} {oi : Oper} {w0 : World} (hC : C w0) (hi : ops[i]? = some oi) (hsel : ∀ (j : Nat) (o : Oper) cs b, ops[j]? = some o → o.op ≠ .select cs b) :
    ∀ (fuel : Nat) (listed : Array Bool) (a : Act),
      (∀ j oj, ops[j]? = some oj → j ≠ i → listed.getD j true = false → (∀ e ∈ oj.after, Region.binds md e = true → e.on ≠ i) → oi.apart ops oj = true) →
      i ∈ Region.ready md ops listed → LGood P ops C Sg oi a →
      (∀ v, LVal P ops C Sg oi a v → wpAnyL P md ops C Sg Q fuel (listed.setIfInBounds i true) (a.put oi.dst v)) → wpAnyL P md ops C Sg Q (fuel + 1) listed a := by
  intro fuel
  induction fuel with
  | zero =>
    intro listed a _ hr hy H
    refine ⟨fun h => (by rw [h] at hr; cases hr), fun j hj => ?_⟩
    by_cases hji : j = i
    · subst hji
      unfold lOp; simp only [hi]
      exact ⟨hy, H⟩
    · obtain ⟨v, hv⟩ := some_val hC hy
      have := ready_mono hj hji
      rw [(H v hv).1] at this
      cases this
  | succ fuel ih =>
    intro listed a hfree hr hy H
    refine ⟨fun h => (by rw [h] at hr; cases hr), fun j hj => ?_⟩
    by_cases hji : j = i
    · subst hji
      unfold lOp; simp only [hi]
      exact ⟨hy, H⟩
    · obtain ⟨hjun, oj, hoj, hall⟩ := mem_ready.1 hj
      have hnot : ∀ e ∈ oj.after, Region.binds md e = true → e.on ≠ i := fun e he hb heq => by
        have h1 := hall e he hb
        have h0 := (mem_ready.1 hr).1
        rw [heq] at h1
        rcases Nat.lt_or_ge i listed.size with h' | h'
        · simp [h'] at h0 h1; rw [h0] at h1; cases h1
        · simp [Array.getElem?_eq_none h'] at h1
      have hap := hfree j oj hoj hji hjun hnot
      obtain ⟨q1, q2, q3⟩ := Oper.apart_spec hap
      have keepG : ∀ u, LGood P ops C Sg oi (a.put oj.dst u) := fun u =>
        hy.of_same (execOp_put oi (fun cs b => hsel i oi cs b hi) a oj.dst u q3) (wanted_put oi a oj.dst u q3)
      have hfree' : ∀ k ok, ops[k]? = some ok → k ≠ i → (listed.setIfInBounds j true).getD k true = false →
          (∀ e ∈ ok.after, Region.binds md e = true → e.on ≠ i) → oi.apart ops ok = true := fun k ok hk hki hun hno => by
        refine hfree k ok hk hki ?_ hno
        by_cases hjk : j = k
        · subst hjk; exact hjun
        · rw [getD_set_ne true hjk] at hun; exact hun
      have ev : ∀ v, execOp (a.put oi.dst v).eval oj = execOp a.eval oj := fun v => execOp_put oj (fun cs b => hsel j oj cs b hoj) a oi.dst v q1
      have wv : ∀ v, Region.wanted oj (yielded ops (a.put oi.dst v).tmps) = Region.wanted oj (yielded ops a.tmps) := fun v => wanted_put oj a oi.dst v q1
      have step : ∀ v, LVal P ops C Sg oi a v → LGood P ops C Sg oj a ∧ ∀ u, LVal P ops C Sg oj a u → wpAnyL P md ops C Sg Q fuel ((listed.setIfInBounds i true).setIfInBounds j true) ((a.put oi.dst v).put oj.dst u) := fun v hv => by
        have h1 := (H v hv).2 j (ready_mono hj hji)
        unfold lOp at h1
        simp only [hoj] at h1
        exact ⟨h1.1.of_same (ev v).symm (wv v).symm, fun u hu => h1.2 u (hu.of_same (ev v) (wv v))⟩
      obtain ⟨v0, hv0⟩ := some_val hC hy
      unfold lOp
      simp only [hoj]
      refine ⟨(step v0 hv0).1, fun u hu => ?_⟩
      refine ih (listed.setIfInBounds j true) (a.put oj.dst u) hfree' (ready_mono hr (Ne.symm hji)) (keepG u) fun v hv => ?_
      have hv' : LVal P ops C Sg oi a v := hv.of_same (execOp_put oi (fun cs b => hsel i oi cs b hi) a oj.dst u q3).symm (wanted_put oi a oj.dst u q3).symm
      have := (step v hv').2 u hu
      rw [Array.setIfInBounds_comm _ _ hji, ← Act.put_comm a v u q2]
      exact this

theorem wpAnyL_lex {Q : Act → Prop} {w0 : World} (hC : C w0) (hs : Region.noSelect ops = true) : ∀ (l : List Oper) (k : Nat) (listed : Array Bool) (a : Act), (∀ j, l[j]? = ops[k + j]?) →
    Region.lexFrom md ops l.length k listed = true → wpLoose P ops C Sg Q l a → wpAnyL P md ops C Sg Q l.length listed a
  | [], _, _, _, _, hB, h => ⟨by simpa [Region.lexFrom] using hB, h⟩
  | o :: l, k, listed, a, hl, hB, h => by
    have h0 : ops[k]? = some o := by simpa using (hl 0).symm
    simp only [List.length_cons, Region.lexFrom, Bool.and_eq_true] at hB
    obtain ⟨⟨hr, hf⟩, hB'⟩ := hB
    have hst : LGood P ops C Sg o a ∧ ∀ v, LVal P ops C Sg o a v → wpLoose P ops C Sg Q l (a.put o.dst v) := by
      unfold wpLoose at h
      by_cases hw : Region.wanted o (yielded ops a.tmps) = true
      · rw [if_pos hw] at h
        refine ⟨fun _ => h.1, fun v hv => ?_⟩
        rcases hv with ⟨_, hv⟩ | ⟨hn, _⟩
        · exact h.2 v hv
        · rw [hw] at hn; cases hn
      · rw [if_neg hw] at h
        refine ⟨fun hw' => absurd hw' hw, fun v hv => ?_⟩
        rcases hv with ⟨hn, _⟩ | ⟨_, rfl⟩
        · exact absurd hn hw
        · exact h
    exact wpAnyL_first hC h0 (Region.noSelect_spec hs) l.length listed a (Region.free_spec h0 hf) (by simpa using hr) hst.1
      fun v hv => wpAnyL_lex hC hs l (k + 1) _ _ (fun j => by have := hl (j + 1); simpa [Nat.add_assoc, Nat.add_comm 1 j] using this) hB' (hst.2 v hv)

theorem wp_region_loose {id : Nat} {Q : Exit → Act → World → Prop} {a : Act} {w : World} {l : List Oper} (Sg : FuncId → Array Value → Value → Prop) (hm : P.follows .mixedOrders = true) (hB : Region.lexB .any l.toArray = true)
    (h : wpLoose P l.toArray (fun w' => ∃ n, w' = w.drewN n) Sg (fun a' => ∀ w', (∃ n, w' = w.drewN n) → Q .normal a' w') l a) : (Code.region id l.toArray true).wp P Q a w := by
  simp only [Region.lexB, Bool.and_eq_true] at hB
  refine wp_region_any hm (wpAny_of_loose (C := fun w' => ∃ n, w' = w.drewN n) (Sg := Sg) (Q := fun a' => ∀ w', (∃ n, w' = w.drewN n) → Q .normal a' w') (fun _ w' hw' h => h w' hw') _ _ _ _ ⟨1, rfl⟩ ?_)
  have := wpAnyL_lex (C := fun w' => ∃ n, w' = w.drewN n) (Sg := Sg) (md := .any) (w0 := w.drewN 0) ⟨0, rfl⟩ hB.1 l 0 (Array.replicate l.length false) a (by simp) (by simpa using hB.2) h
  simpa using this

/-! ### The steps -/
variable {Q : Act → Prop} {a : Act} {o : Oper} {rest : List Oper} {w : World}
theorem wpLoose_nil (h : Q a) : wpLoose P ops C Sg Q [] a := h

theorem good_of_quiet {v : Value} (h : ∀ w, C w → o.quietAt P a C w v) (hs : ∀ w f args w', C w → (execOp a.eval o).run P w ≠ .ok (.enter f args) w') :
    good P C Sg o a ∧ ∀ u, val P C Sg o a u → u = v := by
  constructor
  · intro w hw
    have h1 := h w hw
    have h2 := hs w
    unfold Oper.quietAt at h1
    generalize (execOp a.eval o).run P w = r at *
    cases r with
    | ok n w' =>
      cases n <;> simp only [Oper.quietUpon] at h1 <;> simp only [LoGood]
      case value u => rw [h1.1]; exact hw
      case skip => rw [h1.1]; exact hw
      case enter f args => exact absurd rfl (h2 f args w' hw)
    | halt x w' => simp only [Oper.quietUpon] at h1
  · rintro u ⟨w, hw, hu⟩
    have h1 := h w hw
    have h2 := hs w
    unfold Oper.quietAt at h1
    generalize (execOp a.eval o).run P w = r at *
    cases r with
    | ok n w' =>
      cases n <;> simp only [Oper.quietUpon] at h1 <;> simp only [LoVal] at hu
      case value x => rw [hu, h1.2]
      case skip => rw [hu, h1.2]
      case enter f args => exact absurd rfl (h2 f args w' hw)
    | halt x w' => simp only [Oper.quietUpon] at h1

/-- is it an operation that enters no function -/
def plainOp : Op → Bool
  | .move _ | .assign _ | .pick .. | .load .. | .binOp .. | .unOp .. | .convert .. | .indexAddr .. | .fieldAddr .. | .field .. | .index .. => true
  | .call { callee := .builtin .len, .. } => true
  | _ => false

theorem bind_noEnter {α : Type} {s : Sem α} {g : α → Value} {f : FuncId} {args : Array Value} {w w' : World} : (do let x ← s; pure (Next.value (g x)) : Sem Next).run P w ≠ .ok (.enter f args) w' := by
  rw [Sem.run_bind]
  cases s.run P w with
  | ok x w1 => intro h; cases h
  | halt h w1 => intro h; cases h

theorem plain_noEnter {o : Oper} {a : Act} (h : plainOp o.op = true) (w : World) (f : FuncId) (args : Array Value) (w' : World) : (execOp a.eval o).run P w ≠ .ok (.enter f args) w' := by
  unfold execOp
  cases e : o.op <;> simp only [e, plainOp] at h <;> first | (cases h; done) | skip
  all_goals simp only
  case move => intro h; cases h
  case assign => intro h; cases h
  case call c =>
    obtain ⟨callee, cargs, ct⟩ := c
    cases callee with
    | builtin b =>
      cases b <;> first | (cases h; done) | skip
      simp only [resolve, Sem.run_bind, Sem.run_pure, Result.andThen_ok, invoke, builtin]
      cases Sem.run P (Builtin.len_ ct o.type (Array.map a.eval cargs)) w with
      | ok x w1 => intro h; cases h
      | halt h w1 => intro h; cases h
    | _ => cases h
  case pick => exact bind_noEnter
  all_goals exact bind_noEnter (g := id)

theorem wpLoose_plain (hp : plainOp o.op = true)
    (h : ∀ K : Act → Prop, (∀ a, wpLoose P ops C Sg Q rest a → K a) → if Region.wanted o (yielded ops a.tmps) then o.quiet P a C K else K (a.put o.dst undef)) : wpLoose P ops C Sg Q (o :: rest) a := by
  have h' := h (wpLoose P ops C Sg Q rest) (fun _ h => h)
  unfold wpLoose
  split
  · rename_i hw
    rw [if_pos hw] at h'
    obtain ⟨v, h1, h2⟩ := h'
    obtain ⟨g1, g2⟩ := good_of_quiet (Sg := Sg) h1 (fun w f args w' _ => plain_noEnter hp w f args w')
    exact ⟨g1, fun u hu => by rw [g2 u hu]; exact h2⟩
  · rename_i hw
    rw [if_neg hw] at h'
    exact h'

/-- an operation that hands back any of several values -/
theorem wpLoose_some (hgd : o.guard = none) (V : Value → Prop) (hv : ∀ w, C w → ∃ v w', V v ∧ C w' ∧ (execOp a.eval o).run P w = .ok (.value v) w') (h : ∀ v, V v → wpLoose P ops C Sg Q rest (a.put o.dst v)) : wpLoose P ops C Sg Q (o :: rest) a := by
  have hw : Region.wanted o (yielded ops a.tmps) = true := by simp [Region.wanted, hgd]
  unfold wpLoose
  rw [if_pos hw]
  refine ⟨fun w hw => ?_, ?_⟩
  · obtain ⟨v, w', _, hc, e⟩ := hv w hw
    rw [e]; exact hc
  · rintro u ⟨w, hw, hu⟩
    obtain ⟨v, w', hV, hc, e⟩ := hv w hw
    rw [e] at hu
    change u = v at hu
    subst hu
    exact h _ hV

abbrev Drawn (w : World) : World → Prop := fun w' => ∃ n, w' = w.drewN n

theorem drawn_again {w w' : World} (h : Drawn w w') (j : Nat) : Drawn w (w'.drewN j) := by
  obtain ⟨n, rfl⟩ := h
  exact ⟨n + j, by rw [World.drewN_drewN]⟩

theorem wpLoose_up (hgd : o.guard = none) {S D : TypeId} (hs : P.underlying S = some (.float .f32)) (hd : P.underlying D = some (.float .f64)) (x : Operand) (ho : o.op = .convert S D x) (m : Nat)
    (hx : a.eval x = .float .f32 m) (h : ∀ r, UR m r → wpLoose P ops (Drawn w) Sg Q rest (a.put o.dst (.float .f64 r))) : wpLoose P ops (Drawn w) Sg Q (o :: rest) a := by
  refine wpLoose_some hgd (fun v => ∃ r, UR m r ∧ v = .float .f64 r) (fun w1 hw1 => ?_) (fun v ⟨r, hr, e⟩ => by rw [e]; exact h r hr)
  obtain ⟨r, j, hr, hw⟩ := run_up hs hd m w1
  refine ⟨_, _, ⟨r, hr, rfl⟩, drawn_again hw1 j, ?_⟩
  unfold execOp
  simp only [ho, hx, Sem.run_bind, Sem.run_pure, Result.andThen_ok, hw]

theorem wpLoose_down (hgd : o.guard = none) {S D : TypeId} (hs : P.underlying S = some (.float .f64)) (hd : P.underlying D = some (.float .f32)) (x : Operand) (ho : o.op = .convert S D x) (m : Nat)
    (hx : a.eval x = .float .f64 m) (h : ∀ r, DR m r → wpLoose P ops (Drawn w) Sg Q rest (a.put o.dst (.float .f32 r))) : wpLoose P ops (Drawn w) Sg Q (o :: rest) a := by
  refine wpLoose_some hgd (fun v => ∃ r, DR m r ∧ v = .float .f32 r) (fun w1 hw1 => ?_) (fun v ⟨r, hr, e⟩ => by rw [e]; exact h r hr)
  obtain ⟨r, j, hr, hw⟩ := run_down hs hd m w1
  refine ⟨_, _, ⟨r, hr, rfl⟩, drawn_again hw1 j, ?_⟩
  unfold execOp
  simp only [ho, hx, Sem.run_bind, Sem.run_pure, Result.andThen_ok, hw]

theorem wpLoose_farith (hgd : o.guard = none) (op : BinOp) (t : TypeId) (x y : Operand) (t' : TypeId) (ho : o.op = .binOp op t x y t') (hop : isArith op = true) (k : FloatKind) (m n : Nat)
    (hx : a.eval x = .float k m) (hy : a.eval y = .float k n) (h : ∀ r, FR op k m n r → wpLoose P ops (Drawn w) Sg Q rest (a.put o.dst (.float k r))) : wpLoose P ops (Drawn w) Sg Q (o :: rest) a := by
  refine wpLoose_some hgd (fun v => ∃ r, FR op k m n r ∧ v = .float k r) (fun w1 hw1 => ?_) (fun v ⟨r, hr, e⟩ => by rw [e]; exact h r hr)
  obtain ⟨r, j, hr, hw⟩ := run_farith (P := P) op hop t k m n w1
  refine ⟨_, _, ⟨r, hr, rfl⟩, drawn_again hw1 j, ?_⟩
  have hg : (eqGuard op t x y (.float k m) (.float k n)) = pure () := by
    cases op <;> simp [isArith] at hop <;> rfl
  unfold execOp
  simp only [ho, hx, hy, hg, Sem.run_bind, Sem.run_pure, Result.andThen_ok, hw]

/-- a call of a function, by its contract -/
theorem wpLoose_call (hgd : o.guard = none) (f : FuncId) (args : Array Value) (hr : ∀ w1, (execOp a.eval o).run P w1 = .ok (.enter f args) w1)
    (hc : ∀ w1, Drawn w w1 → Calls P f args w1 fun e w2 => ∃ v, e = .returned v ∧ Sg f args v ∧ Drawn w1 w2) (h : ∀ v, Sg f args v → wpLoose P ops (Drawn w) Sg Q rest (a.put o.dst v)) : wpLoose P ops (Drawn w) Sg Q (o :: rest) a := by
  have hw : Region.wanted o (yielded ops a.tmps) = true := by simp [Region.wanted, hgd]
  unfold wpLoose
  rw [if_pos hw]
  refine ⟨fun w1 hw1 => ?_, ?_⟩
  · rw [hr w1]
    refine ⟨hw1, (hc w1 hw1).mono fun e w2 ⟨v, he, hs, m, hm⟩ => ⟨v, he, hs, ?_⟩⟩
    rw [hm]; exact drawn_again hw1 m
  · rintro u ⟨w1, hw1, hu⟩
    rw [hr w1] at hu
    exact h _ hu
end
end Go.Proofs.YtbgldggaiefhoaaDoor

/- Drawn regions in which memory may be made besides: what is held of the world is that nothing that was there has turned. -/
namespace Go.Proofs.YtbgldggaiefhoaaDoor
open Go.RowKit

section
variable {P : Program} {ops : Array Oper} {C : World → Prop} {Sg : FuncId → Array Value → Value → Prop}

theorem wp_region_looseC {id : Nat} {Q : Exit → Act → World → Prop} {a : Act} {w : World} {l : List Oper} (C : World → Prop) (Sg : FuncId → Array Value → Value → Prop) (hC : C (w.drewN 1)) (hm : P.follows .mixedOrders = true) (hB : Region.lexB .any l.toArray = true)
    (h : wpLoose P l.toArray C Sg (fun a' => ∀ w', C w' → Q .normal a' w') l a) : (Code.region id l.toArray true).wp P Q a w := by
  simp only [Region.lexB, Bool.and_eq_true] at hB
  refine wp_region_any hm (wpAny_of_loose (C := C) (Sg := Sg) (Q := fun a' => ∀ w', C w' → Q .normal a' w') (fun _ w' hw' h => h w' hw') _ _ _ _ hC ?_)
  have := wpAnyL_lex (C := C) (Sg := Sg) (md := .any) (w0 := w.drewN 1) hC hB.1 l 0 (Array.replicate l.length false) a (by simp) (by simpa using hB.2) h
  simpa using this

/-- nothing that was there has turned -/
abbrev Ext (w : World) : World → Prop := fun w' => Below w.heap.size w w'
theorem Ext.start (w : World) : Ext w (w.drewN 1) := below_drewN (Below.refl _ _) 1
theorem Ext.draw {w w' : World} (h : Ext w w') (j : Nat) : Ext w (w'.drewN j) := below_drewN h j

variable {Q : Act → Prop} {a : Act} {o : Oper} {rest : List Oper} {w : World}

theorem wpLoose_val (hgd : o.guard = none) (v : Value) (hv : ∀ w', C w' → (execOp a.eval o).run P w' = .ok (.value v) w') (h : wpLoose P ops C Sg Q rest (a.put o.dst v)) : wpLoose P ops C Sg Q (o :: rest) a :=
  wpLoose_some hgd (· = v) (fun w' hw' => ⟨v, w', rfl, hw', hv w' hw'⟩) (fun _ e => by rw [e]; exact h)

theorem wpLoose_valK (hgd : o.guard = none) (v : Value) (hv : ∀ w', C w' → (execOp a.eval o).run P w' = .ok (.value v) w') (h : ∀ K : Act → Prop, (∀ a, wpLoose P ops C Sg Q rest a → K a) → K (a.put o.dst v)) : wpLoose P ops C Sg Q (o :: rest) a :=
  wpLoose_val hgd v hv (h _ fun _ h => h)

theorem wpLoose_farithB (hgd : o.guard = none) (op : BinOp) (t : TypeId) (x y : Operand) (t' : TypeId) (ho : o.op = .binOp op t x y t') (hop : isArith op = true) (k : FloatKind) (m n : Nat)
    (hx : a.eval x = .float k m) (hy : a.eval y = .float k n) (h : ∀ r, FR op k m n r → wpLoose P ops (Ext w) Sg Q rest (a.put o.dst (.float k r))) : wpLoose P ops (Ext w) Sg Q (o :: rest) a := by
  refine wpLoose_some hgd (fun v => ∃ r, FR op k m n r ∧ v = .float k r) (fun w1 hw1 => ?_) (fun v ⟨r, hr, e⟩ => by rw [e]; exact h r hr)
  obtain ⟨r, j, hr, hw⟩ := run_farith (P := P) op hop t k m n w1
  refine ⟨_, _, ⟨r, hr, rfl⟩, Ext.draw hw1 j, ?_⟩
  have hg : (eqGuard op t x y (.float k m) (.float k n)) = pure () := by
    cases op <;> simp [isArith] at hop <;> rfl
  unfold execOp
  simp only [ho, hx, hy, hg, Sem.run_bind, Sem.run_pure, Result.andThen_ok, hw]

/-- a call of a function, by its contract -/
theorem wpLoose_callS (hgd : o.guard = none) (f : FuncId) (args : Array Value) (hr : ∀ w1, (execOp a.eval o).run P w1 = .ok (.enter f args) w1)
    (hc : ∀ w1, Ext w w1 → Calls P f args w1 fun e w2 => ∃ v, e = .returned v ∧ Sg f args v ∧ Below w1.heap.size w1 w2) (h : ∀ v, Sg f args v → wpLoose P ops (Ext w) Sg Q rest (a.put o.dst v)) :
    wpLoose P ops (Ext w) Sg Q (o :: rest) a := by
  have hw : Region.wanted o (yielded ops a.tmps) = true := by simp [Region.wanted, hgd]
  unfold wpLoose
  rw [if_pos hw]
  refine ⟨fun w1 hw1 => ?_, ?_⟩
  · rw [hr w1]
    exact ⟨hw1, (hc w1 hw1).mono fun e w2 ⟨v, he, hs, hb⟩ => ⟨v, he, hs, below_step hw1 hb⟩⟩
  · rintro u ⟨w1, hw1, hu⟩
    rw [hr w1] at hu
    exact h _ hu
end

/-- what was there is there -/
theorem Ext.cell {w w' : World} (h : Ext w w') {p i : Nat} {v : Value} (hv : w.cell? ⟨p, i, none⟩ = some v) : w'.cell? ⟨p, i, none⟩ = some v :=
  (Below.cell h (p := ⟨p, i, none⟩) (cell_lt hv)).trans hv
end Go.Proofs.YtbgldggaiefhoaaDoor

/- A slice of bytes that a call makes itself, and appends to. -/
namespace Go.Proofs.YtbgldggaiefhoaaDoor
open Go.RowKit
set_option linter.unusedVariables false

/-- the value v reads as the list zs of numbers: empty, or a row of cells -/
def URow (w : World) (v : Value) (zs : List Int) : Prop :=
  ((∃ a c, v = .slice a 0 c) ∧ zs = []) ∨
  ∃ b off cap, v = .slice (some ⟨b, off, none⟩) zs.length cap ∧ zs.length ≤ maxLen ∧ ∀ i, i < zs.length → w.cell? ⟨b, off + i, none⟩ = some (.int .u8 (zs.getD i 0))

theorem URow.below {w w' : World} {v : Value} {zs : List Int} (h : URow w v zs) (hb : Below w.heap.size w w') : URow w' v zs := by
  rcases h with h | ⟨b, off, cap, e, hm, hc⟩
  · exact .inl h
  · refine .inr ⟨b, off, cap, e, hm, fun i hi => ?_⟩
    have := hc i hi
    rw [hb.cell (p := ⟨b, off + i, none⟩) (cell_lt this)]
    exact this

theorem URow.drewN {w : World} {v : Value} {zs : List Int} {n : Nat} (h : URow w v zs) : URow (w.drewN n) v zs := h


/-- how long a slice is -/
theorem URow.shape {w : World} {v : Value} {zs : List Int} (h : URow w v zs) : ∃ a cap, v = .slice a zs.length cap := by
  rcases h with ⟨h, rfl⟩ | ⟨b, off, cap, rfl, _⟩
  · exact h
  · exact ⟨_, _, rfl⟩

abbrev slu (p : Nat) (zs : List Int) : Value := .slice (some ⟨p, 0, none⟩) zs.length zs.length
def flu (zs : List Int) : List Value := zs.map (.int .u8)
theorem URow.of_cells {w : World} {p : Nat} {zs : List Int} (h : Cells w p (flu zs)) (hm : zs.length ≤ maxLen) : URow w (slu p zs) zs :=
  .inr ⟨p, 0, _, rfl, hm, fun i hi => by rw [Nat.zero_add]; exact h.1 i _ (by simp [flu, hi, List.getD_eq_getElem?_getD])⟩

theorem URow.cells {w : World} {v : Value} {zs : List Int} (h : URow w v zs) (hn : 1 ≤ zs.length) : ∃ b off cap, v = .slice (some ⟨b, off, none⟩) zs.length cap ∧ ∀ i, i < zs.length → w.cell? ⟨b, off + i, none⟩ = some (.int .u8 (zs.getD i 0)) := by
  rcases h with ⟨_, rfl⟩ | ⟨b, off, cap, e, hm, hc⟩
  · simp at hn
  · exact ⟨b, off, cap, e, hc⟩

theorem URow.len {w : World} {v : Value} {zs : List Int} (h : URow w v zs) : zs.length ≤ 9223372036854775807 := by
  rcases h with ⟨_, rfl⟩ | ⟨_, _, _, _, hm, _⟩
  · simp
  · exact hm

theorem Tryd.rowOfU : (Tryd.prog.info? 5).map (fun i => (i.zero, i.size, i.bytes)) = some (some (.int .u8 0), 1, 1) := by kernel_rfl
theorem infoU : ∃ i, Tryd.prog.info? 5 = some i ∧ i.zero = some (.int .u8 0) ∧ i.size = 1 ∧ i.bytes = 1 := by
  have h := Tryd.rowOfU
  cases e : Tryd.prog.info? 5 with
  | none => rw [e] at h; simp at h
  | some i =>
    rw [e] at h
    simp only [Option.map_some, Option.some.injEq, Prod.mk.injEq] at h
    exact ⟨i, rfl, h.1, h.2.1, h.2.2⟩

/-- a slice of the call's own reads as zs -/
def OwnU (w : World) (base : Nat) (v : Value) (zs : List Int) : Prop := w.ownsRow base 5 1 v zs.length (flu zs)
theorem OwnU.drewN {w : World} {base : Nat} {v : Value} {zs : List Int} (h : OwnU w base v zs) (n : Nat) : OwnU (w.drewN n) base v zs := h
theorem OwnU.al {w : World} {base : Nat} {v : Value} {zs : List Int} (h : OwnU w base v zs) (o : Obj) : OwnU (w.alloc o) base v zs := World.ownsRow.alloc h o
theorem OwnU.kept {w w' : World} {base : Nat} {v : Value} {zs : List Int} (h : OwnU w base v zs) (hb : Below w.heap.size w w') : OwnU w' base v zs := by
  obtain ⟨h1, h2⟩ := h
  refine ⟨h1, ?_⟩
  rcases h2 with h2 | ⟨g, cap, cur, e, hg, hc, h3⟩
  · exact .inl h2
  · refine .inr ⟨g, cap, cur, e, hg, ?_, h3⟩
    have hlt : g < w.heap.size := by
      by_cases hx : g < w.heap.size
      · exact hx
      · rw [Array.getElem?_eq_none (by simpa using hx)] at hc
        cases hc
    rw [hb.block g hlt]
    exact hc
theorem OwnU.down {w : World} {base b' : Nat} {v : Value} {zs : List Int} (h : OwnU w base v zs) (hb : b' ≤ base) : OwnU w b' v zs := by
  obtain ⟨h1, h2⟩ := h
  refine ⟨h1, ?_⟩
  rcases h2 with h2 | ⟨g, cap, cur, e, hg, hc, h3⟩
  · exact .inl h2
  · exact .inr ⟨g, cap, cur, e, Nat.le_trans hb hg, hc, h3⟩
theorem OwnU.row {w : World} {base : Nat} {v : Value} {zs : List Int} (h : OwnU w base v zs) (hm : zs.length ≤ 1048576) : URow w v zs := by
  have h0 := h
  obtain ⟨h1, h2⟩ := h
  have hx : maxLen = 9223372036854775807 := rfl
  rcases h2 with ⟨rfl, hn⟩ | ⟨g, cap, cur, e, hg, hc, h3⟩
  · have : zs = [] := List.length_eq_zero_iff.1 hn
    subst this
    exact .inl ⟨⟨_, _, rfl⟩, rfl⟩
  · refine .inr ⟨g, 0, cap, e, by omega, fun i hi => ?_⟩
    subst e
    rw [Nat.zero_add, World.ownsRow.cellAt h0 i (by omega)]
    simp [flu, hi, List.getD_eq_getElem?_getD]
theorem OwnU.empty (w : World) (base : Nat) (hb : base ≤ w.heap.size) : OwnU (w.alloc (.cells #[] 5)) base (.slice (some ⟨w.heap.size, 0, none⟩) 0 0) [] :=
  World.ownsRow_lit (w := w) (base := base) (e := 5) (size := 1) #[] 0 hb (by decide) rfl

theorem wpList_appU {ops : Array Oper} {rest : List Oper} {o : Oper} {a : Act} {Q : Exit → Act → World → Prop} {w : World} (hgd : o.guard = none) (s x : Operand)
    (ho : o.op = .call { callee := .builtin .append, args := #[s, x], argTypes := #[150, 150] })
    (base : Nat) (v : Value) (zs : List Int) (hs : a.eval s = v) (hown : OwnU w base v zs) (q c : Nat) (z : Int) (hx : a.eval x = .slice (some ⟨q, 0, none⟩) 1 c) (hq : w.cell? ⟨q, 0, none⟩ = some (.int .u8 z))
    (hk : zs.length ≤ 1048576) (hbase : base ≤ w.heap.size)
    (h : ∀ v' w', OwnU w' base v' (zs ++ [z]) → Below base w w' → wpList Tryd.prog ops Q rest (a.put o.dst v') w') : wpList Tryd.prog ops Q (o :: rest) a w := by
  obtain ⟨i, hi, hz, hsz, hby⟩ := infoU
  have hm : maxLen = 9223372036854775807 := rfl
  refine wpList_append_own w hgd s x _ ho base 5 i (.int .u8 0) 1 1 Tryd.underlying150 hi hz hsz hby rfl (by decide) v zs.length (flu zs) hs hown ⟨q, 0, none⟩ 1 c [.int .u8 z] hx rfl (fun j u hj => ?_) (fun u hu => ?_) (by omega) (by omega) hbase (fun v' w' h1 h2 _ => ?_)
  · cases j with
    | zero => simp at hj; subst hj; simpa [Addr.add] using hq
    | succ j => simp at hj
  · simp at hu; subst hu; rfl
  · refine h v' w' ?_ ((Below.refl base w).grown h2 hbase (fun k hk => (World.ownsRow.lt hown k hk).1))
    unfold OwnU
    simpa [flu] using h1

theorem OwnU.openS {w : World} {base : Nat} {v : Value} {zs : List Int} (h : OwnU w base v zs) (hn : 1 ≤ zs.length) : ∃ g cap, v = .slice (some ⟨g, 0, none⟩) zs.length cap := by
  obtain ⟨h1, h2⟩ := h
  rcases h2 with ⟨_, h2⟩ | ⟨g, cap, cur, e, _⟩
  · omega
  · exact ⟨g, cap, e⟩
theorem OwnU.cellAt {w : World} {base g n cap : Nat} {zs : List Int} (h : OwnU w base (.slice (some ⟨g, 0, none⟩) n cap) zs) (i : Nat) (hi : i < zs.length) : w.cell? ⟨g, i, none⟩ = some (.int .u8 (zs.getD i 0)) := by
  have h0 := h
  obtain ⟨h1, h2⟩ := h
  rcases h2 with ⟨h2, _⟩ | ⟨g', cap', cur, e, hg, hc, h3⟩
  · cases h2
  · cases e
    rw [World.ownsRow.cellAt h0 i (by omega)]
    simp [flu, hi, List.getD_eq_getElem?_getD]
theorem OwnU.nil (w : World) (base : Nat) : OwnU w base (.slice none 0 0) [] := ⟨rfl, .inl ⟨rfl, rfl⟩⟩

end Go.Proofs.YtbgldggaiefhoaaDoor

/- Whole lists of bytes appended; texts as bytes. -/
namespace Go.Proofs.YtbgldggaiefhoaaDoor
open Go.RowKit
set_option linter.unusedVariables false

/-- a whole list appended -/
theorem wpList_catU {ops : Array Oper} {rest : List Oper} {o : Oper} {a : Act} {Q : Exit → Act → World → Prop} {w : World} (hgd : o.guard = none) (s x : Operand)
    (ho : o.op = .call { callee := .builtin .append, args := #[s, x], argTypes := #[150, 150] })
    (base : Nat) (v : Value) (zs ys : List Int) (hs : a.eval s = v) (hown : OwnU w base v zs) (q off c : Nat) (hx : a.eval x = .slice (some ⟨q, off, none⟩) ys.length c) (hq : ∀ i, i < ys.length → w.cell? ⟨q, off + i, none⟩ = some (.int .u8 (ys.getD i 0)))
    (hk : zs.length ≤ 1048576) (hk2 : ys.length ≤ 1048576) (hbase : base ≤ w.heap.size)
    (h : ∀ v' w', OwnU w' base v' (zs ++ ys) → Below base w w' → wpList Tryd.prog ops Q rest (a.put o.dst v') w') : wpList Tryd.prog ops Q (o :: rest) a w := by
  obtain ⟨i, hi, hz, hsz, hby⟩ := infoU
  have hm : maxLen = 9223372036854775807 := rfl
  refine wpList_append_own w hgd s x _ ho base 5 i (.int .u8 0) 1 1 Tryd.underlying150 hi hz hsz hby rfl (by decide) v zs.length (flu zs) hs hown ⟨q, off, none⟩ ys.length c (flu ys) hx (by simp [flu]) (fun j u hj => ?_) (fun u hu => ?_) (by omega) (by omega) hbase (fun v' w' h1 h2 _ => ?_)
  · have hjl : j < ys.length := by
      by_cases hl : j < ys.length
      · exact hl
      · rw [List.getElem?_eq_none (by simpa [flu] using hl)] at hj
        cases hj
    have e : u = .int .u8 (ys.getD j 0) := by
      simp [flu, hjl] at hj
      simp [← hj, List.getD_eq_getElem?_getD, hjl]
    rw [e]
    have h2 := hq j hjl
    by_cases hj0 : j = 0
    · subst hj0
      first | (simp [Addr.add]; done) | simpa [Addr.add] using h2
    · first | (simp [Addr.add, hj0]; done) | simpa [Addr.add, hj0] using h2
  · simp [flu] at hu
    obtain ⟨z, _, rfl⟩ := hu
    rfl
  · refine h v' w' ?_ ((Below.refl base w).grown h2 hbase (fun k hk => (World.ownsRow.lt hown k hk).1))
    unfold OwnU
    simpa [flu] using h1


theorem OwnU.lit (w : World) (base : Nat) (hb : base ≤ w.heap.size) (a b c d : Int) : OwnU (w.alloc (.cells #[.int .u8 a, .int .u8 b, .int .u8 c, .int .u8 d] 5)) base (.slice (some ⟨w.heap.size, 0, none⟩) 4 4) [a, b, c, d] :=
  World.ownsRow_lit (w := w) (base := base) (e := 5) (size := 1) #[.int .u8 a, .int .u8 b, .int .u8 c, .int .u8 d] 4 hb (by decide) rfl
/-- a text's bytes as integers -/
def nums (s : ByteArray) : List Int := s.data.toList.map fun b => (b.toNat : Int)
theorem nums_len (s : ByteArray) : (nums s).length = s.size := by
  unfold nums; rw [List.length_map, Array.length_toList]; rfl
theorem str_nums (s : ByteArray) : strOfNums (nums s) = s := by
  obtain ⟨d⟩ := s
  unfold strOfNums nums
  congr 1
  rw [List.map_map]
  have : ((fun n : Int => UInt8.ofNat n.toNat) ∘ fun b : UInt8 => (b.toNat : Int)) = id := by funext b; simp
  rw [this]; simp
theorem str_app (xs ys : List Int) : strOfNums (xs ++ ys) = strOfNums xs ++ strOfNums ys := by
  unfold strOfNums
  apply ByteArray.ext
  simp
theorem nums_str {xs : List Int} (h : ∀ x ∈ xs, 0 ≤ x ∧ x < 256) : nums (strOfNums xs) = xs := by
  unfold nums
  rw [strOfNums_data, List.map_map]
  refine (List.map_congr_left (fun x hx => ?_)).trans (List.map_id _)
  have := h x hx
  simp
  omega
/-- the row that a text's bytes make -/
theorem bytes_cell (w : World) (s : ByteArray) (fz : Nat × Nat) (cap : Nat) (i : Nat) (hi : i < (nums s).length) : (w.alloc (.cells (bytesRow s cap) 5 fz)).cell? ⟨w.heap.size, 0 + i, none⟩ = some (.int .u8 ((nums s).getD i 0)) := by
  rw [nums_len] at hi
  have hd : i < s.data.size := hi
  have h1 : (s.data.toList.map (fun b : UInt8 => (b.toNat : Int)))[i]? = some (s.data[i].toNat : Int) := by
    rw [List.getElem?_map, List.getElem?_eq_getElem (by simpa using hd)]; simp
  have hn : (nums s).getD i 0 = (s.data[i].toNat : Int) := by
    unfold nums; rw [List.getD_eq_getElem?_getD, h1]; rfl
  have hb : (w.alloc (.cells (bytesRow s cap) 5 fz)).heap[w.heap.size]? = some (.cells (bytesRow s cap) 5 fz) := by
    show (w.heap.push _)[_]? = _; simp
  have hr : (bytesRow s cap)[i]? = some (.int .u8 (s.data[i].toNat : Int)) := by
    unfold bytesRow
    rw [Array.getElem?_append_left (by simpa using hd)]
    simp only [Array.getElem?_map, Array.getElem?_eq_getElem hd, Option.map_some]
  rw [hn, Nat.zero_add]
  simp only [World.cell?, hb]
  simpa using hr
theorem wpList_head {ops : Array Oper} {rest : List Oper} {o : Oper} {a : Act} {Q : Exit → Act → World → Prop} {w : World} (hgd : o.guard = none) (s x : Operand)
    (ho : o.op = .call { callee := .builtin .append, args := #[s, x], argTypes := #[150, 150] })
    (p : Nat) (hs : a.eval s = .slice (some ⟨p, 0, none⟩) 4 4) (b c d e : Int) (hb : w.cell? ⟨p, 0, none⟩ = some (.int .u8 b)) (hc : w.cell? ⟨p, 1, none⟩ = some (.int .u8 c)) (hd : w.cell? ⟨p, 2, none⟩ = some (.int .u8 d)) (he : w.cell? ⟨p, 3, none⟩ = some (.int .u8 e))
    (q n : Nat) (z : Int) (hx : a.eval x = .slice (some ⟨q, 0, none⟩) 1 n) (hq : w.cell? ⟨q, 0, none⟩ = some (.int .u8 z))
    (h : ∀ v' w', OwnU w' w.heap.size v' ([b, c, d, e] ++ [z]) → Below w.heap.size w w' → wpList Tryd.prog ops Q rest (a.put o.dst v') w') : wpList Tryd.prog ops Q (o :: rest) a w := by
  obtain ⟨i, hi, hz, hsz, hby⟩ := infoU
  refine wpList_append_grows w hgd s x 150 ho 5 i (.int .u8 0) 1 1 Tryd.underlying150 hi hz hsz hby rfl (by decide) (some ⟨p, 0, none⟩) 4 4 [.int .u8 b, .int .u8 c, .int .u8 d, .int .u8 e] hs (by intro h; cases h) rfl (fun bb hbb j u hj => ?_) ⟨q, 0, none⟩ 1 n [.int .u8 z] hx rfl (fun j u hj => ?_) (fun u hu => ?_) (by decide) (by decide) (by decide) (fun v' w' h1 h2 => ?_)
  · cases hbb
    match j, hj with
    | 0, hj => cases hj; simpa [Addr.add] using hb
    | 1, hj => cases hj; simpa [Addr.add] using hc
    | 2, hj => cases hj; simpa [Addr.add] using hd
    | 3, hj => cases hj; simpa [Addr.add] using he
    | j + 4, hj => simp at hj
  · cases j with
    | zero => simp at hj; subst hj; simpa [Addr.add] using hq
    | succ j => simp at hj
  · simp at hu; subst hu; rfl
  · exact h v' w' h1 ((Below.refl w.heap.size w).grown h2 (Nat.le_refl _) (fun _ hk => by cases hk))

end Go.Proofs.YtbgldggaiefhoaaDoor

/- strconv.FormatInt at base 16: the library's text, walked. -/
namespace Go.Proofs.YtbgldggaiefhoaaDoor
open Go.RowKit
set_option linter.unusedVariables false

theorem tz64_any (w : World) (h : w.cell? ⟨8, 15, none⟩ = some (.int .u8 4)) : Calls Tryd.prog 193 #[.int .u64 16] w fun e w' => e = .returned (.int .i64 4) ∧ w = w' := by
  have h1 : bits BinOp.and IntKind.u64 16 (IntKind.u64.wrap (-16)) = 16 := by decide +kernel
  have h2 : IntKind.u64.wrap (16 * 285870213051353865) = 4573923408821661840 := by decide +kernel
  go_enter Tryd.func193, Tryd.ntmps193
  go_wp2
  go_ret
  exact ⟨rfl, rfl⟩
theorem pow2_any (w : World) : Calls Tryd.prog 180 #[.int .i64 16] w fun e w' => e = .returned (.bool true) ∧ w = w' := by
  go_enter Tryd.func180, Tryd.ntmps180
  go_wp2
  go_ret
  exact ⟨rfl, rfl⟩
theorem tz_any (w : World) (h : w.cell? ⟨8, 15, none⟩ = some (.int .u8 4)) : Calls Tryd.prog 181 #[.int .u64 16] w fun e w' => e = .returned (.int .i64 4) ∧ w = w' := by
  go_enter Tryd.func181, Tryd.ntmps181
  go_wp2_with (go_at_call 193; refine (tz64_any _ h).mono ?_; rintro e w1 ⟨rfl, rfl⟩)
  go_ret
  exact ⟨rfl, rfl⟩
theorem u64_and15 (a : Nat) (ha : a < 18446744073709551616) : bits .and .u64 (a : Int) 15 = ((a % 16 : Nat) : Int) := by
  show IntKind.u64.wrap ((BitVec.ofInt 64 (a : Int) &&& BitVec.ofInt 64 ((15 : Nat) : Int)).toNat : Int) = _
  have e1 : (BitVec.ofInt 64 (a : Int)).toNat = a := by rw [BitVec.toNat_ofInt]; omega
  have e2 : (BitVec.ofInt 64 ((15 : Nat) : Int)).toNat = 15 := by decide +kernel
  rw [BitVec.toNat_and, e1, e2, show a &&& 15 = a % 16 from Nat.and_two_pow_sub_one_eq_mod a 4]
  unfold IntKind.wrap
  simp [IntKind.bits, IntKind.signed]
  omega
/-- the table of digits, as Go writes it -/
abbrev digZ : ByteArray := ⟨#[48, 49, 50, 51, 52, 53, 54, 55, 56, 57, 97, 98, 99, 100, 101, 102, 103, 104, 105, 106, 107, 108, 109, 110, 111, 112, 113, 114, 115, 116, 117, 118, 119, 120, 121, 122]⟩
theorem dig_at (d : Nat) (h16 : d < 16) (h : d < ((⟨#[48, 49, 50, 51, 52, 53, 54, 55, 56, 57, 97, 98, 99, 100, 101, 102, 103, 104, 105, 106, 107, 108, 109, 110, 111, 112, 113, 114, 115, 116, 117, 118, 119, 120, 121, 122]⟩ : ByteArray)).size) : ((((⟨#[48, 49, 50, 51, 52, 53, 54, 55, 56, 57, 97, 98, 99, 100, 101, 102, 103, 104, 105, 106, 107, 108, 109, 110, 111, 112, 113, 114, 115, 116, 117, 118, 119, 120, 121, 122]⟩ : ByteArray))[d]'h).toNat : Int) = hd d := by
  match d, h16 with
  | 0, _ => rfl
  | 1, _ => rfl
  | 2, _ => rfl
  | 3, _ => rfl
  | 4, _ => rfl
  | 5, _ => rfl
  | 6, _ => rfl
  | 7, _ => rfl
  | 8, _ => rfl
  | 9, _ => rfl
  | 10, _ => rfl
  | 11, _ => rfl
  | 12, _ => rfl
  | 13, _ => rfl
  | 14, _ => rfl
  | 15, _ => rfl
  | d + 16, h => omega
/-- the array while the loop runs -/
def rowf (u k j : Nat) : Value := .int .u8 (if 65 - k ≤ j then hx u (64 - j) else 0)
theorem rowf_step {u k : Nat} (hk : k ≤ 7) (j : Nat) (hj : j < 65) : (if j = 64 - k then (.int .u8 (hd (u / 16 ^ k % 16)) : Value) else rowf u k j) = rowf u (k + 1) j := by
  unfold rowf
  by_cases e : j = 64 - k
  · rw [if_pos e, if_pos (by omega)]
    subst e
    unfold hx
    rw [show 64 - (64 - k) = k from by omega]
  · rw [if_neg e]
    by_cases e2 : 65 - k ≤ j
    · rw [if_pos e2, if_pos (by omega)]
    · rw [if_neg e2, if_neg (by omega)]
theorem sl65 (b k : Nat) (hk : k ≤ 7) (w : World) : (Instr.sliceAt 214 (.pointer (some ⟨b, 0, none⟩)) (some (.int .i64 (65 - (k : Int) - 1))) none none).run Tryd.prog w = .ok (.slice (some ⟨b, 64 - k, none⟩) (k + 1) (k + 1)) w := by
  have hL : Tryd.prog.arrayLen 214 = 65 := by kernel_rfl
  have hS : (sizeOf (Tryd.prog.elem 214)).run Tryd.prog w = .ok 1 w := by kernel_rfl
  rw [run_sliceAt_array_l w 214 _ (by kernel_rfl) .i64 _ (by omega) (by rw [hL]; omega), hS, hL]
  have e : (65 - (k : Int) - 1).toNat = 64 - k := by omega
  simp only [Result.andThen_ok, slicedAt, e]
  rw [if_neg (by omega)]
  simp [Addr.add]
  omega
def Fmt16 (u : Nat) (w : World) (e : Ending) (w' : World) : Prop := ∃ k, k ≤ 7 ∧ u < 16 ^ (k + 1) ∧ e = .returned (.tuple #[.slice none 0 0, .string (strOfNums (hexK u k))]) ∧ Below w.heap.size w w'
theorem row0 (w : World) : (w.alloc (.cells Tryd.zeroCells214 214)).rowIs w.heap.size 214 65 (fun _ => .int .u8 0) := by
  have e : Tryd.zeroCells214 = Array.replicate 65 (.int .u8 0) := by kernel_rfl
  rw [e]
  have h := World.rowIs_alloc w (Array.replicate 65 (.int .u8 0)) 214 (fun _ => .int .u8 0) (fun i hi => by simp at hi; simp [hi])
  simpa using h
set_option maxHeartbeats 1600000 in
set_option maxRecDepth 20000 in
theorem fmtBits_any (u : Nat) (w : World) (hu : u < 4294967296) (h : ∀ w1, Below w.heap.size w w1 → w1.cell? ⟨8, 15, none⟩ = some (.int .u8 4)) : Calls Tryd.prog 164 #[.slice none 0 0, .int .u64 u, .int .i64 16, .bool false, .bool false] w (Fmt16 u w) := by
  have H := Lib.hid h
  have HU := Lib.hid hu
  have R0 := Lib.hid (row0 w)
  clear h
  go_enter Tryd.func164, Tryd.ntmps164
  go_wp2_with (first
    | (go_at_call 180; refine (pow2_any _).mono ?_; rintro e w1 ⟨rfl, rfl⟩)
    | (go_at_call 181; refine (tz_any _ (H.out _ (below_al1 w _))).mono ?_; rintro e w1 ⟨rfl, rfl⟩)
    | go_in)
  go_loopw [1, 13] (fun x i wr => ∃ k x' : Nat, k ≤ 7 ∧ x = .int .u64 (x' : Int) ∧ i = .int .i64 (65 - (k : Int)) ∧ Hid (x' = u / 16 ^ k) ∧ Hid (Below w.heap.size w wr) ∧ Hid (wr.rowIs w.heap.size 214 65 (rowf u k))) (fun _ i _ => (intOf i).toNat)
  case atStart => exact ⟨0, u, by omega, rfl, rfl, Lib.hid (by simp), Lib.hid (below_al1 w _), Lib.hid (R0.out.congr (fun i hi => by unfold rowf; rw [if_neg (by omega)]))⟩
  case round =>
    obtain ⟨k, x, hk, rfl, rfl, hx0, hb, hr⟩ := hrel
    by_cases hge : 16 ≤ x
    · have hk6 : k ≤ 6 := by
        have h1 := hx0.out
        have h2 := HU.out
        by_cases e : k = 7
        · subst e; omega
        · omega
      have A1 := u64_and15 x (by have h1 := hx0.out; have h2 := HU.out; have := Nat.div_le_self u (16 ^ k); omega)
      have D1 := dig_at (x % 16) (by omega) (Nat.lt_of_lt_of_le (show x % 16 < 16 by omega) (by decide))
      have E1 : (65 - (k : Int) - 1).toNat = 64 - k := by omega
      have E2 : 65 - (k : Int) - 1 = 65 - ((k + 1 : Nat) : Int) := by omega
      have C0 := hr.out.cell (i := 64 - k) (by omega)
      have F0 := hr.out.frozen (64 - k)
      have R2 := Lib.hid (hr.out.set (64 - k) (.int .u8 (hd (x % 16))))
      have B2 := Lib.hid (hb.out.setCell (p := ⟨w.heap.size, 64 - k, none⟩) (Nat.le_refl _) (.int .u8 (hd (x % 16))))
      have HE := Lib.hid E2
      clear E2
      go_wp2
      go_roundw
      case rel =>
        refine ⟨k + 1, x / 16, by omega, by go_num, by rw [HE.out], Lib.hid ?_, B2, Lib.hid (R2.out.congr (fun j hj => ?_))⟩
        · rw [hx0.out, Nat.pow_succ, Nat.div_div_eq_div_mul]
        · rw [hx0.out]; exact rowf_step (by omega) j hj
      case measure => simp [intOf]; omega
    · have hlt : x < 16 := by omega
      have HK : Hid (u < 16 ^ (k + 1)) := Lib.hid (by
        have h1 := hx0.out
        rw [Nat.pow_succ]
        rw [Nat.mul_comm]; exact (Nat.div_lt_iff_lt_mul (Nat.pow_pos (show 0 < 16 by decide))).1 (by rw [← h1]; exact hlt))
      have D1 := dig_at x hlt (Nat.lt_of_lt_of_le hlt (by decide))
      have E1 : (65 - (k : Int) - 1).toNat = 64 - k := by omega
      have C0 := hr.out.cell (i := 64 - k) (by omega)
      have F0 := hr.out.frozen (64 - k)
      have R2 := Lib.hid (hr.out.set (64 - k) (.int .u8 (hd x)))
      have B2 := Lib.hid (hb.out.setCell (p := ⟨w.heap.size, 64 - k, none⟩) (Nat.le_refl _) (.int .u8 (hd x)))
      have R3 : Hid ((wr.setCell ⟨w.heap.size, 64 - k, none⟩ (.int .u8 (hd x))).rowIs w.heap.size 214 65 (rowf u (k + 1))) := Lib.hid (R2.out.congr (fun j hj => by
        have h1 := hx0.out
        have e : x = u / 16 ^ k % 16 := by omega
        conv => lhs; rw [e]
        exact rowf_step (by omega) j hj))
      have HL := hexK_len u k
      have HC := run_convert_bytes_arg (P := Tryd.prog) (wr.setCell ⟨w.heap.size, 64 - k, none⟩ (.int .u8 (hd x))) 150 5 Tryd.underlying150 Tryd.underlying5 w.heap.size (64 - k) (k + 1) (k + 1) (hexK u k) (by omega) (fun i hi => by
        have hi : i < k + 1 := by simpa [HL] using hi
        rw [R3.out.cell (i := 64 - k + i) (by omega)]
        unfold rowf
        rw [if_pos (by omega), List.getD_eq_getElem?_getD, hexK_at u k i (by omega), show 64 - (64 - k + i) = k - i from by omega]
        rfl) 9 Tryd.underlying9
      have HS := sl65 w.heap.size k hk (wr.setCell ⟨w.heap.size, 64 - k, none⟩ (.int .u8 (hd x)))
      clear hx0 R2 HL
      go_wp2
      go_ret2
      exact ⟨k, hk, HK.out, rfl, B2.out⟩
theorem fmtI16_any (u : Nat) (w : World) (hu : u < 4294967296) (h : ∀ w1, Below w.heap.size w w1 → w1.cell? ⟨8, 15, none⟩ = some (.int .u8 4)) : Calls Tryd.prog 140 #[.int .i64 u, .int .i64 16] w fun e w' => ∃ k, k ≤ 7 ∧ u < 16 ^ (k + 1) ∧ e = .returned (.string (strOfNums (hexK u k))) ∧ Below w.heap.size w w' := by
  have HC := Lib.hid (fmtBits_any u w hu h)
  have hw : IntKind.u64.wrap (u : Int) = u := by unfold IntKind.wrap; simp [IntKind.bits, IntKind.signed]; omega
  have hn : decide ((u : Int) < 0) = false := by simp
  clear h
  go_enter Tryd.func140, Tryd.ntmps140
  go_wp2_with fail
  refine HC.out.mono ?_
  rintro e w1 ⟨k, hk, hK, rfl, hb⟩
  have H := Lib.hid (And.intro hk (And.intro hK hb))
  clear hk hK hb
  go_wp2
  go_ret
  exact ⟨k, H.out.1, H.out.2.1, rfl, H.out.2.2⟩
theorem fmt16_any (u : Nat) (w : World) (hu : u < 4294967296) (h : Tabs w) : Calls Tryd.prog 104 #[.int .i64 u, .int .i64 16] w fun e w' => ∃ k, k ≤ 7 ∧ u < 16 ^ (k + 1) ∧ e = .returned (.string (strOfNums (hexK u k))) ∧ Below w.heap.size w w' := by
  have HC := Lib.hid (fmtI16_any u w hu (fun w1 hb => (h.below hb).d64.cell (g := 8) (by kernel_rfl) 15 (by decide)))
  clear h
  go_enter Tryd.func104, Tryd.ntmps104
  go_wp2_with fail
  refine HC.out.mono ?_
  rintro e w1 ⟨k, hk, hK, rfl, hb⟩
  have H := Lib.hid (And.intro hk (And.intro hK hb))
  clear hk hK hb
  go_wp2
  go_ret
  exact ⟨k, H.out.1, H.out.2.1, rfl, H.out.2.2⟩
end Go.Proofs.YtbgldggaiefhoaaDoor

/- A number as eight hexadecimal digits: both sides. -/
namespace Go.Proofs.YtbgldggaiefhoaaDoor
open Go.RowKit
set_option linter.unusedVariables false

/-- the bits of a number, as the document tells them -/
def hbit (a : Nat) : Nat := if nn .f32 a then 2143289344 else a
theorem hbit_lt {a : Nat} (h : (Lit.float .f32 a).wf = true) : hbit a < 4294967296 := by
  have := wf32 h
  unfold hbit; split <;> omega
theorem specHb_any (a : Nat) (w : World) (wa : (Lit.float .f32 a).wf = true) :
    Calls Tryd.prog 96 #[.float .f32 a] w fun e w' => e = .returned (.int .i64 (hbit a)) ∧ w = w' := by
  have ho := order_self (k := .f32) (x := a)
  have hl := wf32 wa
  cases hn : nn .f32 a
  · rw [hn] at ho; simp only [Bool.false_eq_true, if_false] at ho
    go_enter Tryd.func96, Tryd.ntmps96
    go_wp2
    go_ret
    exact ⟨by simp [hbit, hn], rfl⟩
  · rw [hn] at ho; simp only [if_true] at ho
    go_enter Tryd.func96, Tryd.ntmps96
    go_wp2
    go_ret
    exact ⟨by simp [hbit, hn], rfl⟩
theorem implHb_any (a : Nat) (w : World) (wa : (Lit.float .f32 a).wf = true) :
    Calls Tryd.prog 100 #[.float .f32 a] w fun e w' => e = .returned (.int .i64 (hbit a)) ∧ w = w' := by
  have ho := order_self (k := .f32) (x := a)
  have hl := wf32 wa
  cases hn : nn .f32 a
  · rw [hn] at ho; simp only [Bool.false_eq_true, if_false] at ho
    go_enter Tryd.func100, Tryd.ntmps100
    go_wp2
    go_ret
    exact ⟨by simp [hbit, hn], rfl⟩
  · rw [hn] at ho; simp only [if_true] at ho
    go_enter Tryd.func100, Tryd.ntmps100
    go_wp2
    go_ret
    exact ⟨by simp [hbit, hn], rfl⟩
def hexZ (a : Nat) : ByteArray := strOfNums (hexL (hbit a))
theorem hexZ_size (a : Nat) : (hexZ a).size = 8 := by unfold hexZ; rw [strOfNums_size, hexL_len]
theorem rep_str (n : Nat) : (⟨(Lib.repeatL [48] n).toArray⟩ : ByteArray) = strOfNums (List.replicate n 48) := by
  unfold strOfNums
  congr 2
  induction n with
  | zero => rfl
  | succ n ih => rw [List.replicate_succ, List.map_cons, ← ih]; rfl

set_option maxHeartbeats 800000 in
theorem implHex_any (a : Nat) (w : World) (wa : (Lit.float .f32 a).wf = true) (ht : Tabs w) : Calls Tryd.prog 119 #[.float .f32 a] w fun e w' => e = .returned (.tuple #[.string (hexZ a), .bool true]) ∧ Below w.heap.size w w' := by
  have HB := Lib.hid (implHb_any a w wa)
  have HF := Lib.hid (fmt16_any (hbit a) w (hbit_lt wa) ht)
  have HZ := Lib.hid (fun k (hk : k ≤ 7) (h : hbit a < 16 ^ (k + 1)) => show strOfNums (List.replicate (7 - k) 48) ++ strOfNums (hexK (hbit a) k) = hexZ a by
    unfold hexZ; rw [hexL_pad hk h, str_app, show 8 - (k + 1) = 7 - k from by omega])
  have HR := Lib.hid (fun n (w1 : World) (hn : n ≤ 8) => Tryd.strings_Repeat ⟨#[48]⟩ n w1 (by omega) (by show 1 * n ≤ _; omega))
  clear wa ht
  generalize hbit a = u at *
  generalize hexZ a = z at *
  go_enter Tryd.func119, Tryd.ntmps119
  go_wp2_with fail
  refine HB.out.mono ?_
  rintro e w1 ⟨rfl, rfl⟩
  go_wp2_with fail
  refine HF.out.mono ?_
  rintro e w1 ⟨k, hk, hK, rfl, hb⟩
  have B := Lib.hid hb
  have HZ2 := Lib.hid (HZ.out k hk hK)
  have HR2 := Lib.hid (HR.out (7 - k) w1 (by omega))
  have hsz : (strOfNums (hexK u k)).size = k + 1 := by rw [strOfNums_size, hexK_len]
  have hrs := strOfNums_size (List.replicate (7 - k) (48 : Int))
  rw [List.length_replicate] at hrs
  clear hb hK HZ HR
  generalize strOfNums (hexK u k) = t at *
  have E1 : 8 - ((t.size : Nat) : Int) = ((7 - k : Nat) : Int) := by omega
  have HE := Lib.hid E1
  clear E1
  have ht2 : t.size ≤ 8 := by omega
  clear hsz
  go_wp2_with fail
  rw [HE.out]
  refine HR2.out.mono ?_
  rw [rep_str]
  generalize strOfNums (List.replicate (7 - k) 48) = s at *
  rintro e w2 ⟨rfl, hb⟩
  have B2 := Lib.hid (below_step B.out hb)
  clear hb
  have nn : ¬ (9223372036854775807 < s.size + t.size) := by omega
  go_wp2
  go_ret2
  exact ⟨by rw [HZ2.out]; rfl, B2.out⟩

theorem dig16_at (d : Nat) (h16 : d < 16) (h : d < ((⟨#[48, 49, 50, 51, 52, 53, 54, 55, 56, 57, 97, 98, 99, 100, 101, 102]⟩ : ByteArray)).size) : ((((⟨#[48, 49, 50, 51, 52, 53, 54, 55, 56, 57, 97, 98, 99, 100, 101, 102]⟩ : ByteArray))[d]'h).toNat : Int) = hd d := by
  match d, h16 with
  | 0, _ => rfl
  | 1, _ => rfl
  | 2, _ => rfl
  | 3, _ => rfl
  | 4, _ => rfl
  | 5, _ => rfl
  | 6, _ => rfl
  | 7, _ => rfl
  | 8, _ => rfl
  | 9, _ => rfl
  | 10, _ => rfl
  | 11, _ => rfl
  | 12, _ => rfl
  | 13, _ => rfl
  | 14, _ => rfl
  | 15, _ => rfl
  | d + 16, h => omega
theorem nib (u m : Nat) (hu : u < 4294967296) (hm : m < 8) : bits BinOp.and IntKind.i64 ((u : Int) / 2 ^ (28 - 4 * m)) 15 = ((u / 16 ^ (7 - m) % 16 : Nat) : Int) := by
  have e1 : 2 ^ (28 - 4 * m) = 16 ^ (7 - m) := by
    rw [show 28 - 4 * m = 4 * (7 - m) from by omega, Nat.pow_mul]
  have e2 : (u : Int) / 2 ^ (28 - 4 * m) = ((u / 16 ^ (7 - m) : Nat) : Int) := by
    rw [← e1]; simp
  have hle := Nat.div_le_self u (16 ^ (7 - m))
  rw [e2, show (15 : Int) = ((15 : Nat) : Int) from rfl, i64_and_nat _ _ (by omega) (by decide)]
  rw [show (u / 16 ^ (7 - m)) &&& 15 = u / 16 ^ (7 - m) % 16 from Nat.and_two_pow_sub_one_eq_mod _ 4]
set_option maxHeartbeats 1600000 in
set_option maxRecDepth 20000 in
theorem specHex_any (a : Nat) (w : World) (wa : (Lit.float .f32 a).wf = true) : Calls Tryd.prog 114 #[.float .f32 a] w fun e w' => e = .returned (.string (hexZ a)) ∧ Below w.heap.size w w' := by
  have HB := Lib.hid (specHb_any a w wa)
  have HU := Lib.hid (hbit_lt wa)
  have O0 := Lib.hid (OwnU.empty w w.heap.size (Nat.le_refl _))
  have B0 := Lib.hid (below_al1 w (.cells #[] 5))
  unfold hexZ
  clear wa
  generalize hbit a = u at *
  go_enter Tryd.func114, Tryd.ntmps114
  go_wp2_with fail
  refine HB.out.mono ?_
  rintro e w1 ⟨rfl, rfl⟩
  go_wp2
  go_loopw [4, 5] (fun v i wr => ∃ m : Nat, m ≤ 8 ∧ i = .int .i64 (28 - 4 * (m : Int)) ∧ Hid (OwnU wr w.heap.size v ((hexL u).take m)) ∧ Hid (Below w.heap.size w wr)) (fun _ i _ => (intOf i + 4).toNat)
  case atStart => exact ⟨0, by omega, rfl, O0, B0⟩
  case round =>
    obtain ⟨m, hm, rfl, ho, hb⟩ := hrel
    by_cases hlt : m < 8
    · have hm4 : 4 * (m : Int) ≤ 28 := by omega
      have A1 := nib u m HU.out hlt
      have HD : Hid ((hexL u).take m ++ [hd (u / 16 ^ (7 - m) % 16)] = (hexL u).take (m + 1)) := Lib.hid (hexL_take u m hlt).symm
      obtain ⟨d, hd16, hde⟩ : ∃ d, d < 16 ∧ u / 16 ^ (7 - m) % 16 = d := ⟨_, Nat.mod_lt _ (by decide), rfl⟩
      rw [hde] at A1 HD
      have D1 := dig16_at d hd16 hd16
      have B2 := Lib.hid (hb.out.alloc (hb.out.size) (.cells #[.int .u8 (hd d)] 5))
      have hl : ((hexL u).take m).length ≤ 8 := by rw [List.length_take]; omega
      have HL := Lib.hid hl
      have HM := Lib.hid (show (28 : Int) - 4 * m - 4 = 28 - 4 * ((m + 1 : Nat) : Int) by omega)
      clear hde hl
      go_wp2_with (at_builtin; refine wpList_appU rfl _ _ rfl w.heap.size _ _ rfl (ho.out.al _) wr.heap.size 1 (hd d) rfl ((World.cell?_alloc_at _ _ _ _ (by simp)).trans rfl) (by have := HL.out; omega) (B2.out.size) ?_; intro v' w' hO' hB')
      go_roundw
      case rel => exact ⟨m + 1, by omega, by rw [HM.out], Lib.hid (by rw [← HD.out]; exact hO'), Lib.hid (B2.out.trans hB')⟩
      case measure => simp [intOf]; omega
    · have e : m = 8 := by omega
      subst e
      have ht : (hexL u).take 8 = hexL u := by rw [List.take_of_length_le]; rw [hexL_len]; exact Nat.le_refl _
      rw [ht] at ho
      have hlen := hexL_len u
      obtain ⟨g, cap, rfl⟩ := ho.out.openS (by omega)
      have hcv := run_convert_bytes_arg (P := Tryd.prog) wr 150 5 Tryd.underlying150 Tryd.underlying5 g 0 (hexL u).length cap (hexL u) rfl (fun i hi => by rw [Nat.zero_add]; exact ho.out.cellAt i hi) 9 Tryd.underlying9
      clear ht hlen
      go_wp2
      go_ret
      exact ⟨rfl, hb.out⟩
end Go.Proofs.YtbgldggaiefhoaaDoor

/- Texts with commas between them. No program stands in this text. -/
namespace Go.Proofs.YtbgldggaiefhoaaDoor
open Go

/-- texts with a mark between them -/
def jn (c : UInt8) (xs : List ByteArray) : ByteArray := ⟨(Lib.join (xs.map (·.data.toList)) [c]).toArray⟩
theorem ba_ext {a b : ByteArray} (h : a.data.toList = b.data.toList) : a = b := by
  apply ByteArray.ext; exact Array.toList_inj.1 h
theorem jn_one (c : UInt8) (x : ByteArray) : jn c [x] = x := by
  apply ba_ext
  unfold jn
  simp [Lib.join_one]
theorem jn_snoc (c : UInt8) (xs : List ByteArray) (y : ByteArray) (h : xs ≠ []) : jn c (xs ++ [y]) = jn c xs ++ ((⟨#[c]⟩ : ByteArray) ++ y) := by
  cases xs with
  | nil => exact absurd rfl h
  | cons x r =>
    apply ba_ext
    unfold jn
    simp [Lib.join_cons, Lib.joinTail]
theorem lens_le (b : Nat) : ∀ (xs : List ByteArray), (∀ x ∈ xs, x.size ≤ b) → Lib.lens (xs.map (·.data.toList)) ≤ b * xs.length
  | [], _ => by simp [Lib.lens]
  | x :: r, h => by
    have h1 := h x (by simp)
    have h2 := lens_le b r (fun y hy => h y (by simp [hy]))
    have h3 : x.data.toList.length = x.size := by rw [Array.length_toList]; rfl
    simp only [Lib.lens, List.map_cons, List.sum_cons, List.length_cons] at *
    rw [Nat.mul_succ]
    omega
theorem jn_len (c : UInt8) (b : Nat) (xs : List ByteArray) (h : ∀ x ∈ xs, x.size ≤ b) : (Lib.join (xs.map (·.data.toList)) [c]).length ≤ (b + 1) * xs.length := by
  cases xs with
  | nil => simp [Lib.join_nil]
  | cons x r =>
    have := lens_le b (x :: r) h
    rw [List.map_cons, Lib.join_length]
    simp only [List.map_cons, List.length_cons, List.length_map, List.length_nil] at *
    have e : (b + 1) * (r.length + 1) = b * (r.length + 1) + (r.length + 1) := by rw [Nat.add_mul, Nat.one_mul]
    omega
theorem jn_size (c : UInt8) (b : Nat) (xs : List ByteArray) (h : ∀ x ∈ xs, x.size ≤ b) : (jn c xs).size ≤ (b + 1) * xs.length := by
  have := jn_len c b xs h
  unfold jn
  simpa [ByteArray.size] using this
theorem take_map_snoc {α β : Type} (f : α → β) (zs : List α) (k : Nat) (z : α) (h : zs[k]? = some z) : (zs.take (k + 1)).map f = (zs.take k).map f ++ [f z] := by
  rw [List.take_add_one, h]; simp
end Go.Proofs.YtbgldggaiefhoaaDoor

/- A slice of strings that a call makes itself, and appends to. -/
namespace Go.Proofs.YtbgldggaiefhoaaDoor
open Go.RowKit
set_option linter.unusedVariables false

/-- the value v reads as the list zs of numbers: empty, or a row of cells -/
def ZRow (w : World) (v : Value) (zs : List ByteArray) : Prop :=
  ((∃ a c, v = .slice a 0 c) ∧ zs = []) ∨
  ∃ b off cap, v = .slice (some ⟨b, off, none⟩) zs.length cap ∧ zs.length ≤ maxLen ∧ ∀ i, i < zs.length → w.cell? ⟨b, off + i, none⟩ = some (.string (zs.getD i ⟨#[]⟩))

theorem ZRow.below {w w' : World} {v : Value} {zs : List ByteArray} (h : ZRow w v zs) (hb : Below w.heap.size w w') : ZRow w' v zs := by
  rcases h with h | ⟨b, off, cap, e, hm, hc⟩
  · exact .inl h
  · refine .inr ⟨b, off, cap, e, hm, fun i hi => ?_⟩
    have := hc i hi
    rw [hb.cell (p := ⟨b, off + i, none⟩) (cell_lt this)]
    exact this

theorem ZRow.drewN {w : World} {v : Value} {zs : List ByteArray} {n : Nat} (h : ZRow w v zs) : ZRow (w.drewN n) v zs := h


/-- how long a slice is -/
theorem ZRow.shape {w : World} {v : Value} {zs : List ByteArray} (h : ZRow w v zs) : ∃ a cap, v = .slice a zs.length cap := by
  rcases h with ⟨h, rfl⟩ | ⟨b, off, cap, rfl, _⟩
  · exact h
  · exact ⟨_, _, rfl⟩

abbrev slz (p : Nat) (zs : List ByteArray) : Value := .slice (some ⟨p, 0, none⟩) zs.length zs.length
def flz (zs : List ByteArray) : List Value := zs.map (.string)
theorem ZRow.of_cells {w : World} {p : Nat} {zs : List ByteArray} (h : Cells w p (flz zs)) (hm : zs.length ≤ maxLen) : ZRow w (slz p zs) zs :=
  .inr ⟨p, 0, _, rfl, hm, fun i hi => by rw [Nat.zero_add]; exact h.1 i _ (by simp [flz, hi, List.getD_eq_getElem?_getD])⟩

theorem ZRow.cells {w : World} {v : Value} {zs : List ByteArray} (h : ZRow w v zs) (hn : 1 ≤ zs.length) : ∃ b off cap, v = .slice (some ⟨b, off, none⟩) zs.length cap ∧ ∀ i, i < zs.length → w.cell? ⟨b, off + i, none⟩ = some (.string (zs.getD i ⟨#[]⟩)) := by
  rcases h with ⟨_, rfl⟩ | ⟨b, off, cap, e, hm, hc⟩
  · simp at hn
  · exact ⟨b, off, cap, e, hc⟩

theorem ZRow.len {w : World} {v : Value} {zs : List ByteArray} (h : ZRow w v zs) : zs.length ≤ 9223372036854775807 := by
  rcases h with ⟨_, rfl⟩ | ⟨_, _, _, _, hm, _⟩
  · simp
  · exact hm

theorem Tryd.rowOfZ : (Tryd.prog.info? 9).map (fun i => (i.zero, i.size, i.bytes)) = some (some (.string ⟨#[]⟩), 1, 16) := by kernel_rfl
theorem infoZ : ∃ i, Tryd.prog.info? 9 = some i ∧ i.zero = some (.string ⟨#[]⟩) ∧ i.size = 1 ∧ i.bytes = 16 := by
  have h := Tryd.rowOfZ
  cases e : Tryd.prog.info? 9 with
  | none => rw [e] at h; simp at h
  | some i =>
    rw [e] at h
    simp only [Option.map_some, Option.some.injEq, Prod.mk.injEq] at h
    exact ⟨i, rfl, h.1, h.2.1, h.2.2⟩

/-- a slice of the call's own reads as zs -/
def OwnZ (w : World) (base : Nat) (v : Value) (zs : List ByteArray) : Prop := w.ownsRow base 9 1 v zs.length (flz zs)
theorem OwnZ.drewN {w : World} {base : Nat} {v : Value} {zs : List ByteArray} (h : OwnZ w base v zs) (n : Nat) : OwnZ (w.drewN n) base v zs := h
theorem OwnZ.al {w : World} {base : Nat} {v : Value} {zs : List ByteArray} (h : OwnZ w base v zs) (o : Obj) : OwnZ (w.alloc o) base v zs := World.ownsRow.alloc h o
theorem OwnZ.kept {w w' : World} {base : Nat} {v : Value} {zs : List ByteArray} (h : OwnZ w base v zs) (hb : Below w.heap.size w w') : OwnZ w' base v zs := by
  obtain ⟨h1, h2⟩ := h
  refine ⟨h1, ?_⟩
  rcases h2 with h2 | ⟨g, cap, cur, e, hg, hc, h3⟩
  · exact .inl h2
  · refine .inr ⟨g, cap, cur, e, hg, ?_, h3⟩
    have hlt : g < w.heap.size := by
      by_cases hx : g < w.heap.size
      · exact hx
      · rw [Array.getElem?_eq_none (by simpa using hx)] at hc
        cases hc
    rw [hb.block g hlt]
    exact hc
theorem OwnZ.down {w : World} {base b' : Nat} {v : Value} {zs : List ByteArray} (h : OwnZ w base v zs) (hb : b' ≤ base) : OwnZ w b' v zs := by
  obtain ⟨h1, h2⟩ := h
  refine ⟨h1, ?_⟩
  rcases h2 with h2 | ⟨g, cap, cur, e, hg, hc, h3⟩
  · exact .inl h2
  · exact .inr ⟨g, cap, cur, e, Nat.le_trans hb hg, hc, h3⟩
theorem OwnZ.row {w : World} {base : Nat} {v : Value} {zs : List ByteArray} (h : OwnZ w base v zs) (hm : zs.length ≤ 1048576) : ZRow w v zs := by
  have h0 := h
  obtain ⟨h1, h2⟩ := h
  have hx : maxLen = 9223372036854775807 := rfl
  rcases h2 with ⟨rfl, hn⟩ | ⟨g, cap, cur, e, hg, hc, h3⟩
  · have : zs = [] := List.length_eq_zero_iff.1 hn
    subst this
    exact .inl ⟨⟨_, _, rfl⟩, rfl⟩
  · refine .inr ⟨g, 0, cap, e, by omega, fun i hi => ?_⟩
    subst e
    rw [Nat.zero_add, World.ownsRow.cellAt h0 i (by omega)]
    simp [flz, hi, List.getD_eq_getElem?_getD]
theorem OwnZ.empty (w : World) (base : Nat) (hb : base ≤ w.heap.size) : OwnZ (w.alloc (.cells #[] 9)) base (.slice (some ⟨w.heap.size, 0, none⟩) 0 0) [] :=
  World.ownsRow_lit (w := w) (base := base) (e := 9) (size := 1) #[] 0 hb (by decide) rfl

theorem wpList_appZ {ops : Array Oper} {rest : List Oper} {o : Oper} {a : Act} {Q : Exit → Act → World → Prop} {w : World} (hgd : o.guard = none) (s x : Operand)
    (ho : o.op = .call { callee := .builtin .append, args := #[s, x], argTypes := #[108, 108] })
    (base : Nat) (v : Value) (zs : List ByteArray) (hs : a.eval s = v) (hown : OwnZ w base v zs) (q c : Nat) (z : ByteArray) (hx : a.eval x = .slice (some ⟨q, 0, none⟩) 1 c) (hq : w.cell? ⟨q, 0, none⟩ = some (.string z))
    (hk : zs.length ≤ 1048576) (hbase : base ≤ w.heap.size)
    (h : ∀ v' w', OwnZ w' base v' (zs ++ [z]) → Below base w w' → wpList Tryd.prog ops Q rest (a.put o.dst v') w') : wpList Tryd.prog ops Q (o :: rest) a w := by
  obtain ⟨i, hi, hz, hsz, hby⟩ := infoZ
  have hm : maxLen = 9223372036854775807 := rfl
  refine wpList_append_own w hgd s x _ ho base 9 i (.string ⟨#[]⟩) 1 16 Tryd.underlying108 hi hz hsz hby rfl (by decide) v zs.length (flz zs) hs hown ⟨q, 0, none⟩ 1 c [.string z] hx rfl (fun j u hj => ?_) (fun u hu => ?_) (by omega) (by omega) hbase (fun v' w' h1 h2 _ => ?_)
  · cases j with
    | zero => simp at hj; subst hj; simpa [Addr.add] using hq
    | succ j => simp at hj
  · simp at hu; subst hu; rfl
  · refine h v' w' ?_ ((Below.refl base w).grown h2 hbase (fun k hk => (World.ownsRow.lt hown k hk).1))
    unfold OwnZ
    simpa [flz] using h1

theorem OwnZ.openS {w : World} {base : Nat} {v : Value} {zs : List ByteArray} (h : OwnZ w base v zs) (hn : 1 ≤ zs.length) : ∃ g cap, v = .slice (some ⟨g, 0, none⟩) zs.length cap := by
  obtain ⟨h1, h2⟩ := h
  rcases h2 with ⟨_, h2⟩ | ⟨g, cap, cur, e, _⟩
  · omega
  · exact ⟨g, cap, e⟩
theorem OwnZ.cellAt {w : World} {base g n cap : Nat} {zs : List ByteArray} (h : OwnZ w base (.slice (some ⟨g, 0, none⟩) n cap) zs) (i : Nat) (hi : i < zs.length) : w.cell? ⟨g, i, none⟩ = some (.string (zs.getD i ⟨#[]⟩)) := by
  have h0 := h
  obtain ⟨h1, h2⟩ := h
  rcases h2 with ⟨h2, _⟩ | ⟨g', cap', cur, e, hg, hc, h3⟩
  · cases h2
  · cases e
    rw [World.ownsRow.cellAt h0 i (by omega)]
    simp [flz, hi, List.getD_eq_getElem?_getD]
theorem OwnZ.nil (w : World) (base : Nat) : OwnZ w base (.slice none 0 0) [] := ⟨rfl, .inl ⟨rfl, rfl⟩⟩

end Go.Proofs.YtbgldggaiefhoaaDoor

/- A slice of 32-bit numbers, as a list of their bits. -/
namespace Go.Proofs.YtbgldggaiefhoaaDoor
open Go.RowKit

/-- a new row: the call hands back a slice that reads as zs, and nothing that was there has turned -/
def NewRow (zs : List Nat) (w : World) (e : Ending) (w' : World) : Prop := ∃ v, e = .returned v ∧ FRow w' v zs ∧ Below w.heap.size w w'

theorem Tryd.rowOf32 : (Tryd.prog.info? 54).map (fun i => (i.zero, i.size, i.bytes)) = some (some (.float .f32 0), 1, 4) := by kernel_rfl

def part (zs : List Nat) (k i : Nat) : Value := .float .f32 (if i < k then zs.getD i 0 else 0)

theorem row_of_part {wr : World} {b : Nat} {zs : List Nat} (h : wr.rowIs b 54 zs.length (part zs zs.length)) (hm : zs.length ≤ maxLen) : FRow wr (.slice (some ⟨b, 0, none⟩) zs.length zs.length) zs := by
  refine .inr ⟨b, 0, _, rfl, hm, fun i hi => ?_⟩
  have := h.cell hi
  rw [Nat.zero_add, this]
  simp [part, hi]

/-- .. in a block of its own, the first behind those that were there -/
def NewAt (zs : List Nat) (w : World) (e : Ending) (w' : World) : Prop :=
  e = .returned (.slice (some ⟨w.heap.size, 0, none⟩) zs.length zs.length) ∧ FRow w' (.slice (some ⟨w.heap.size, 0, none⟩) zs.length zs.length) zs ∧ Below w.heap.size w w' ∧ Cells w' w.heap.size (zs.map (.float .f32))

theorem cells_of_part {wr : World} {b : Nat} {zs : List Nat} (h : wr.rowIs b 54 zs.length (part zs zs.length)) (hb : b < wr.heap.size) : Cells wr b (zs.map (.float .f32)) := by
  refine ⟨fun i v hv => ?_, fun i => h.frozen i, hb⟩
  have hi : i < zs.length := by
    have := (List.getElem?_eq_some_iff.1 hv).1
    simpa using this
  rw [h.cell hi]
  simp [hi] at hv
  simp [part, hi, hv, List.getD_eq_getElem?_getD]

set_option maxHeartbeats 800000 in
theorem toF_new (v : Value) (zs : List Nat) (w : World) (h : FRow w v zs) (hl : zs.length ≤ 1048576) :
    Calls Tryd.prog 49 #[v] w (NewAt zs w) := by
  rcases h with ⟨⟨a0, c0, rfl⟩, rfl⟩ | ⟨b, off, cap, rfl, hm, hc⟩
  · have hmk : ∀ w, (Instr.makeSlice 30 (.int .i64 0) (.int .i64 0)).run Tryd.prog w = .ok (.slice (some ⟨w.heap.size, 0, none⟩) 0 0) (w.alloc (.cells (madeCells #[.float .f32 0] 0) 54)) := run_make_row' (P := Tryd.prog) 30 54 (.float .f32 0) 4 Tryd.underlying30 Tryd.rowOf32 rfl .i64 .i64 0 (by omega) (by omega)
    go_enter Tryd.func49, Tryd.ntmps49
    go_wp2
    go_loopw [4] (fun i wr => i = .int .i64 0 ∧ wr = w.alloc (.cells (madeCells #[.float .f32 0] 0) 54)) (fun i _ => 0)
    case atStart => exact ⟨rfl, rfl⟩
    case round =>
      obtain ⟨rfl, rfl⟩ := hrel
      go_wp2
      go_ret
      exact ⟨rfl, .inl ⟨⟨_, _, rfl⟩, rfl⟩, (Below.refl _ _).alloc (Nat.le_refl _) _, fun i v hv => by simp at hv, fun i => by simp, by simp⟩
  · generalize hn : zs.length = n at *
    have Hn := Lib.hid hn
    clear hn
    have hmk := run_make_row' (P := Tryd.prog) 30 54 (.float .f32 0) 4 Tryd.underlying30 Tryd.rowOf32 rfl .i64 .i64 n (by omega) (by omega)
    go_enter Tryd.func49, Tryd.ntmps49
    go_wp2
    go_loopw [4] (fun i wr => ∃ k : Nat, k ≤ n ∧ i = .int .i64 k ∧ Below w.heap.size w wr ∧ wr.rowIs w.heap.size 54 n (part zs k)) (fun i _ => n - (intOf i).toNat)
    case atStart => exact ⟨0, Nat.zero_le _, rfl, (Below.refl _ _).alloc (Nat.le_refl _) _, (World.rowIs_made w (.float .f32 0) n 54).congr (fun i _ => by simp [part])⟩
    case round =>
      obtain ⟨k, hk, rfl, hb, hr⟩ := hrel
      by_cases hlt : k < n
      · have h1 := hc k hlt
        have h2 : wr.cell? ⟨b, off + k, none⟩ = some (.float .f32 (zs.getD k 0)) := by rw [hb.cell (p := ⟨b, off + k, none⟩) (cell_lt h1)]; exact h1
        have h3 : wr.cell? ⟨w.heap.size, k, none⟩ = some (part zs k k) := hr.cell hlt
        have h4 : wr.frozen? ⟨w.heap.size, k, none⟩ = false := hr.frozen k
        have hr' := Lib.hid (hr.set k (.float .f32 (zs.getD k 0)))
        have hb' := Lib.hid (hb.setCell (p := ⟨w.heap.size, k, none⟩) (Nat.le_refl _) (.float .f32 (zs.getD k 0)))
        clear hmk hc h1 hb hr
        go_wp2
        go_roundw
        case rel =>
          refine ⟨k + 1, by omega, by go_num, by simpa using hb'.out, ?_⟩
          have := hr'.out
          refine World.rowIs.congr (by simpa using this) (fun i _ => ?_)
          simp only [part]
          by_cases e : i = k
          · subst e; simp
          · rw [if_neg e]
            by_cases h : i < k
            · rw [if_pos h, if_pos (by omega)]
            · rw [if_neg h, if_neg (by omega)]
        case measure => simp [intOf]; omega
      · have e : k = n := by omega
        have hr' := Lib.hid hr
        have hb' := Lib.hid (And.intro hb hr.lt)
        have He := Lib.hid e
        clear hmk hc hb hr e
        go_wp2
        go_ret
        have hr := hr'.out
        have hz := Hn.out
        have := He.out
        subst this
        subst hz
        exact ⟨rfl, row_of_part hr hm, hb'.out.1, cells_of_part hr hb'.out.2⟩

theorem toF_any (v : Value) (zs : List Nat) (w : World) (h : FRow w v zs) (hl : zs.length ≤ 1048576) :
    Calls Tryd.prog 49 #[v] w (NewRow zs w) := (toF_new v zs w h hl).mono fun _ _ ⟨he, hf, hb, _⟩ => ⟨_, he, hf, hb⟩

/-- two lists of numbers that are the same -/
def SameList (zs ys : List Nat) : Prop := zs.length = ys.length ∧ ∀ i, i < zs.length → cn .f32 (zs.getD i 0) = cn .f32 (ys.getD i 0)
theorem SameList.refl (zs : List Nat) : SameList zs zs := ⟨rfl, fun _ _ => rfl⟩

theorem FRow.empty {w : World} {v : Value} (h : FRow w v []) : ∃ a c, v = .slice a 0 c := by
  rcases h with ⟨h, _⟩ | ⟨b, off, cap, rfl, _⟩
  · exact h
  · exact ⟨_, _, rfl⟩

theorem eqF_empty (a a' : Option Addr) (c c' : Nat) (w : World) : Calls Tryd.prog 22 #[.slice a 0 c, .slice a' 0 c'] w (Yes w) := by
  go_enter Tryd.func22, Tryd.ntmps22
  go_wp2
  go_loop [5] (fun i => i = .int .i64 0) (fun _ => 0)
  case atStart => rfl
  case round =>
    obtain rfl := hrel
    go_wp2
    go_ret
    exact Yes.same

set_option maxHeartbeats 800000 in
theorem eqF_rows (zs ys : List Nat) (b off cap b' off' cap' : Nat) (w : World) (n : Nat) (hn : zs.length = n) (hm : n ≤ maxLen) (hs : ∀ i, i < n → cn .f32 (zs.getD i 0) = cn .f32 (ys.getD i 0))
    (hc : ∀ i, i < n → w.cell? ⟨b, off + i, none⟩ = some (.float .f32 (zs.getD i 0))) (hc' : ∀ i, i < n → w.cell? ⟨b', off' + i, none⟩ = some (.float .f32 (ys.getD i 0))) :
    Calls Tryd.prog 22 #[.slice (some ⟨b, off, none⟩) n cap, .slice (some ⟨b', off', none⟩) n cap'] w (Yes w) := by
  unfold maxLen at hm
  have Hs := Lib.hid hs
  have Hn := Lib.hid hn
  clear hs hn
  go_enter Tryd.func22, Tryd.ntmps22
  go_wp2
  go_loopw [5] (fun i wr => ∃ k q : Nat, k ≤ n ∧ i = .int .i64 k ∧ wr = w.drewN q) (fun i _ => n - (intOf i).toNat)
  case atStart => exact ⟨0, 0, Nat.zero_le _, rfl, rfl⟩
  case round =>
    obtain ⟨k, q, hk, rfl, rfl⟩ := hrel
    by_cases hlt : k < n
    · have h1 := hc k hlt
      have h2 := hc' k hlt
      have hz := Lib.hid (Hs.out k hlt)
      clear hc hc'
      have hi : (0 : Int) ≤ (k : Int) := by omega
      have hi' : (k : Int) < (n : Int) := by omega
      go_wp2
      refine wp_region_loose (fun _ _ v => v = .bool true) (by kernel_rfl) (by kernel_rfl) ?_
      (refine wpLoose_plain rfl (fun K hK => ?_); go_simp; refine hK _ ?_; clear hK K)
      (refine wpLoose_plain rfl (fun K hK => ?_); go_simp; refine hK _ ?_; clear hK K)
      (refine wpLoose_plain rfl (fun K hK => ?_); go_simp; refine hK _ ?_; clear hK K)
      (refine wpLoose_plain rfl (fun K hK => ?_); go_simp; refine hK _ ?_; clear hK K)
      (refine wpLoose_up rfl Tryd.underlying54 Tryd.underlying83 _ rfl _ rfl ?_; intro _ _)
      (refine wpLoose_plain rfl (fun K hK => ?_); go_simp; refine hK _ ?_; clear hK K)
      (refine wpLoose_plain rfl (fun K hK => ?_); go_simp; refine hK _ ?_; clear hK K)
      (refine wpLoose_plain rfl (fun K hK => ?_); go_simp; refine hK _ ?_; clear hK K)
      (refine wpLoose_plain rfl (fun K hK => ?_); go_simp; refine hK _ ?_; clear hK K)
      (refine wpLoose_up rfl Tryd.underlying54 Tryd.underlying83 _ rfl _ rfl ?_; intro _ _)
      rename_i r1 hu1 r2 hu2
      refine wpLoose_call rfl 57 #[.float .f64 r1, .float .f64 r2] (fun w1 => ?_) (fun w1 _ => ?_) ?_
      · go_simp
      · refine (same_end w1 hu1 hu2 (by simpa using hz.out)).mono ?_
        rintro e w2 ⟨rfl, m, rfl⟩
        exact ⟨_, rfl, rfl, m, rfl⟩
      rintro v rfl
      (refine wpLoose_plain rfl (fun K hK => ?_); go_simp; refine hK _ ?_; clear hK K)
      (refine wpLoose_nil ?_; rintro _ ⟨nq, rfl⟩)
      go_wp2
      go_roundw
      case rel => exact ⟨k + 1, _, by omega, by go_num, rfl⟩
      case measure => simp [intOf]; omega
    · clear hc hc'
      go_wp2
      go_ret
      exact Yes.drewN

/-- two slices of numbers that are the same, and slices of numbers alone -/
theorem eqF_any (v v' : Value) (zs ys : List Nat) (w : World) (h : FRow w v zs) (h' : FRow w v' ys) (hs : SameList zs ys) :
    Calls Tryd.prog 22 #[v, v'] w (Yes w) := by
  obtain ⟨hl, hs⟩ := hs
  by_cases h0 : zs.length = 0
  · obtain rfl : zs = [] := List.length_eq_zero_iff.1 h0
    obtain rfl : ys = [] := List.length_eq_zero_iff.1 hl.symm
    obtain ⟨a, c, rfl⟩ := h.empty
    obtain ⟨a', c', rfl⟩ := h'.empty
    exact eqF_empty a a' c c' w
  · rcases h with ⟨_, rfl⟩ | ⟨b, off, cap, rfl, hm, hc⟩
    · exact absurd rfl h0
    · rcases h' with ⟨_, rfl⟩ | ⟨b', off', cap', rfl, hm', hc'⟩
      · exact absurd hl h0
      · rw [← hl] at hc' ⊢
        exact eqF_rows zs ys b off cap b' off' cap' w zs.length rfl hm hs hc hc'
end Go.Proofs.YtbgldggaiefhoaaDoor

/- The text of a list of numbers: both sides. -/
namespace Go.Proofs.YtbgldggaiefhoaaDoor
open Go.RowKit
set_option linter.unusedVariables false

def noneZ : ByteArray := ⟨#[110, 111, 110, 101]⟩
/-- the text of numbers -/
def nTx (zs : List Nat) : ByteArray := bif zs.isEmpty then ⟨#[110, 111, 110, 101]⟩ else jn 44 (zs.map hexZ)
theorem hexs_le (zs : List Nat) : ∀ x ∈ zs.map hexZ, x.size ≤ 8 := by
  intro x hx
  obtain ⟨z, _, rfl⟩ := List.mem_map.1 hx
  rw [hexZ_size]; exact Nat.le_refl _
theorem getD_some {zs : List Nat} {k : Nat} (h : k < zs.length) : zs[k]? = some (zs.getD k 0) := by
  simp [List.getD_eq_getElem?_getD, h]

set_option maxHeartbeats 1600000 in
set_option maxRecDepth 20000 in
theorem specNTx_any (v : Value) (zs : List Nat) (w : World) (h : FRow w v zs) (hw : ∀ i, i < zs.length → (Lit.float .f32 (zs.getD i 0)).wf = true) (hl : zs.length ≤ 256) : Calls Tryd.prog 75 #[v] w fun e w' => e = .returned (.string (nTx zs)) ∧ Below w.heap.size w w' := by
  by_cases h0 : zs = []
  · subst h0
    obtain ⟨a, cap, rfl⟩ := h.shape
    go_enter Tryd.func75, Tryd.ntmps75
    go_wp2
    go_ret
    exact ⟨rfl, Below.refl _ _⟩
  · have hn : 1 ≤ zs.length := by
      cases zs with
      | nil => exact absurd rfl h0
      | cons x r => simp
    have EN : nTx zs = jn 44 (zs.map hexZ) := by
      unfold nTx
      cases zs with
      | nil => exact absurd rfl h0
      | cons x r => rfl
    rw [EN]
    have HH := Lib.hid (fun k (hk : k < zs.length) (w1 : World) => specHex_any (zs.getD k 0) w1 (hw k hk))
    have HST := Lib.hid (fun k (hk : k < zs.length) => take_map_snoc hexZ zs k _ (getD_some hk))
    have HSZ := Lib.hid (fun k => jn_size 44 8 ((zs.take k).map hexZ) (hexs_le _))
    have HZ := Lib.hid (fun z => hexZ_size z)
    obtain ⟨b, off, cap, rfl, hc⟩ := h.cells hn
    have HC := Lib.hid (fun (w1 : World) (hb : Below w.heap.size w w1) k (hk : k < zs.length) => (hb.cell (p := ⟨b, off + k, none⟩) (cell_lt (hc k hk))).trans (hc k hk))
    have HE : Hid ((zs.take zs.length).map hexZ = zs.map hexZ) := Lib.hid (by rw [List.take_length])
    have HN0 : Hid (∀ k, 1 ≤ k → k ≤ zs.length → (zs.take k).map hexZ ≠ []) := Lib.hid (by
      intro k h1 h2 e
      have := congrArg List.length e
      rw [List.length_map, List.length_take, List.length_nil] at this; omega)
    clear hw h EN h0 hc
    generalize hlen : zs.length = n at *
    have HL := Lib.hid hlen
    clear hlen
    have c0 := (HC.out w (Below.refl _ _) 0 (by omega))
    rw [Nat.add_zero] at c0
    go_enter Tryd.func75, Tryd.ntmps75
    go_wp2_with fail
    refine (HH.out 0 (by omega) w).mono ?_
    rintro e w1 ⟨rfl, hb⟩
    have B1 := Lib.hid hb
    clear hb c0
    go_wp2
    go_loopw [3, 4] (fun v i wr => ∃ k : Nat, 1 ≤ k ∧ k ≤ n ∧ i = .int .i64 k ∧ v = .string (jn 44 ((zs.take k).map hexZ)) ∧ Hid (Below w.heap.size w wr)) (fun _ i _ => n - (intOf i).toNat)
    case atStart =>
      refine ⟨1, by omega, hn, rfl, ?_, B1⟩
      have := HST.out 0 (by omega)
      rw [this]
      simp [jn_one]
    case round =>
      obtain ⟨k, h1, hk, rfl, rfl, hb⟩ := hrel
      by_cases hlt : k < n
      · have c0 := HC.out _ hb.out k hlt
        have HS : Hid (jn 44 ((zs.take (k + 1)).map hexZ) = jn 44 ((zs.take k).map hexZ) ++ ((⟨#[44]⟩ : ByteArray) ++ hexZ (zs.getD k 0))) := Lib.hid (by rw [HST.out k hlt, jn_snoc _ _ _ (HN0.out k h1 hk)])
        have hz := HSZ.out k
        have hz2 := HZ.out (zs.getD k 0)
        rw [List.length_map, List.length_take] at hz
        have HA := Lib.hid (HH.out k hlt wr)
        generalize jn 44 ((zs.take k).map hexZ) = t at *
        generalize hexZ (zs.getD k 0) = y at *
        have n1 : ¬ (9223372036854775807 < t.size + (1 + y.size)) := by omega
        have n2 : ¬ (9223372036854775807 < 1 + y.size) := by omega
        clear hz hz2
        go_wp2_with fail
        refine HA.out.mono ?_
        rintro e w2 ⟨rfl, hb2⟩
        have B2 := Lib.hid (below_step hb.out hb2)
        clear hb2 c0
        go_wp2
        refine ⟨⟨k + 1, by omega, by omega, by go_num, by rw [HS.out], B2⟩, by simp [intOf]; omega⟩
      · have e : k = n := by omega
        subst e
        rw [HE.out]
        go_wp2
        go_ret
        exact ⟨rfl, hb.out⟩

set_option maxHeartbeats 1600000 in
set_option maxRecDepth 20000 in
theorem joinHex_any (v : Value) (zs : List Nat) (w : World) (h : FRow w v zs) (hw : ∀ i, i < zs.length → (Lit.float .f32 (zs.getD i 0)).wf = true) (hl : zs.length ≤ 256) (ht : Tabs w) : Calls Tryd.prog 118 #[v, .int .i64 256, .func (.func 119) #[] #[]] w fun e w' => e = .returned (.tuple #[.string (nTx zs), .bool true]) ∧ Below w.heap.size w w' := by
  by_cases h0 : zs = []
  · subst h0
    obtain ⟨a, cap, rfl⟩ := h.shape
    go_enter Tryd.func118, Tryd.ntmps118
    go_wp2
    go_ret2
    exact ⟨rfl, Below.refl _ _⟩
  · have hn : 1 ≤ zs.length := by
      cases zs with
      | nil => exact absurd rfl h0
      | cons x r => simp
    have EN : nTx zs = jn 44 (zs.map hexZ) := by
      unfold nTx
      cases zs with
      | nil => exact absurd rfl h0
      | cons x r => rfl
    rw [EN]
    have HT := Lib.hid ht
    have HH := Lib.hid (fun k (hk : k < zs.length) (w1 : World) (hT : Tabs w1) => implHex_any (zs.getD k 0) w1 (hw k hk) hT)
    have hmk := run_make_row' (P := Tryd.prog) 108 9 (.string ⟨#[]⟩) 16 Tryd.underlying108 Tryd.rowOfZ rfl .i64 .i64 zs.length (by omega) (by omega)
    have HJ := Lib.hid (fun (w1 : World) (bk : Nat) (hcells : ∀ (j : Nat) x, (zs.map hexZ)[j]? = some x → w1.cell? ⟨bk, 0 + j, none⟩ = some (.string x)) (hbk : bk < w1.heap.size) =>
      show Calls Tryd.prog 79 #[.slice (some ⟨bk, 0, none⟩) (zs.map hexZ).length zs.length, .string ⟨#[44]⟩] w1 (fun e w' => e = .returned (.string (jn 44 (zs.map hexZ))) ∧ Below w1.heap.size w1 w') from Tryd.strings_Join bk 0 zs.length (zs.map hexZ) ⟨#[44]⟩ w1 hcells hbk (by rw [List.length_map]; omega) (by rw [List.length_map]; exact Nat.le_refl _) (by
        have := jn_len 44 8 (zs.map hexZ) (hexs_le zs)
        rw [List.length_map] at this
        show (Lib.join _ [44]).length ≤ _
        omega))
    have HG := Lib.hid (fun j (hj : j < zs.length) => show (zs.map hexZ)[j]? = some (hexZ (zs.getD j 0)) by rw [List.getElem?_map, getD_some hj]; rfl)
    obtain ⟨b, off, cap, rfl, hc⟩ := h.cells hn
    have HC := Lib.hid (fun (w1 : World) (hb : Below w.heap.size w w1) k (hk : k < zs.length) => (hb.cell (p := ⟨b, off + k, none⟩) (cell_lt (hc k hk))).trans (hc k hk))
    have HLm : Hid ((zs.map hexZ).length = zs.length) := Lib.hid (List.length_map _)
    clear hw h EN h0 hc ht
    generalize jn 44 (zs.map hexZ) = T at *
    generalize hlen : zs.length = n at *
    have HL := Lib.hid hlen
    clear hlen
    have hd : decide ((256 : Int) < (n : Int)) = false := by simp; omega
    have hz0 : ((n : Int) == 0) = false := by simp; omega
    go_enter Tryd.func118, Tryd.ntmps118
    have R0 := Lib.hid ((World.rowIs_made w (.string ⟨#[]⟩) n 9).congr (g := fun j => .string (if j < 0 then hexZ (zs.getD j 0) else ⟨#[]⟩)) (fun j _ => by simp))
    go_wp2
    go_loopw [25] (fun i wr => ∃ k : Nat, k ≤ n ∧ i = .int .i64 k ∧ Hid (Below w.heap.size w wr) ∧ Hid (wr.rowIs w.heap.size 9 n (fun j => .string (if j < k then hexZ (zs.getD j 0) else ⟨#[]⟩)))) (fun i _ => n - (intOf i).toNat)
    case atStart => exact ⟨0, by omega, rfl, Lib.hid (below_al1 w _), R0⟩
    case round =>
      obtain ⟨k, hk, rfl, hb, hr⟩ := hrel
      by_cases hlt : k < n
      · have c0 := HC.out _ hb.out k hlt
        have HA := Lib.hid (HH.out k hlt wr (HT.out.below hb.out))
        go_wp2_with fail
        refine HA.out.mono ?_
        rintro e w2 ⟨rfl, hb2⟩
        have B2 := Lib.hid (below_step hb.out hb2)
        have R2 := Lib.hid (hr.out.of_block (hb2.block _ hr.out.lt))
        clear hb2 c0
        have C1 := R2.out.cell hlt
        have F1 := R2.out.frozen k
        have R3 := Lib.hid (R2.out.set k (.string (hexZ (zs.getD k 0))))
        have B3 := Lib.hid (B2.out.setCell (p := ⟨w.heap.size, k, none⟩) (Nat.le_refl _) (.string (hexZ (zs.getD k 0))))
        have HX := Lib.hid (fun j => show (if j = k then (.string (hexZ (zs.getD k 0)) : Value) else .string (if j < k then hexZ (zs.getD j 0) else ⟨#[]⟩)) = .string (if j < k + 1 then hexZ (zs.getD j 0) else ⟨#[]⟩) by
          by_cases e : j = k
          · subst e; rw [if_pos rfl, if_pos (by omega)]
          · rw [if_neg e]
            by_cases e2 : j < k
            · rw [if_pos e2, if_pos (by omega)]
            · rw [if_neg e2, if_neg (by omega)])
        rw [if_neg (Nat.lt_irrefl k)] at C1
        generalize hexZ (zs.getD k 0) = y at *
        go_wp2
        go_roundw
        case rel => exact ⟨k + 1, by omega, by go_num, B3, Lib.hid (R3.out.congr (fun j _ => HX.out j))⟩
        case measure => simp [intOf]; omega
      · have e : k = n := by omega
        subst e
        have HA := HJ.out wr w.heap.size (fun j x hx => by
          have hj : j < k := by
            by_cases hj : j < k
            · exact hj
            · rw [List.getElem?_eq_none (by rw [HLm.out]; omega)] at hx; cases hx
          rw [HG.out j hj] at hx
          cases hx
          rw [Nat.zero_add, hr.out.cell hj, if_pos hj]) hr.out.lt
        rw [HLm.out] at HA
        have HA := Lib.hid HA
        clear HJ
        go_wp2_with fail
        refine HA.out.mono ?_
        rintro e w2 ⟨rfl, hb2⟩
        have B2 := Lib.hid (below_step hb.out hb2)
        clear hb2
        go_wp2
        go_ret2
        exact ⟨rfl, B2.out⟩
end Go.Proofs.YtbgldggaiefhoaaDoor

/- Copies of lists in blocks of their own. -/
namespace Go.Proofs.YtbgldggaiefhoaaDoor
open Go.RowKit

def NewSl (zs : List Nat) (w : World) (e : Ending) (w' : World) : Prop := ∃ p, e = .returned (sl p zs) ∧ w.heap.size ≤ p ∧ Cells w' p (fl zs) ∧ Below w.heap.size w w'
theorem toF_sl (v : Value) (zs : List Nat) (w : World) (h : FRow w v zs) (hl : zs.length ≤ 1048576) : Calls Tryd.prog 49 #[v] w (NewSl zs w) :=
  (toF_new v zs w h hl).mono fun _ _ ⟨he, _, hb, hc⟩ => ⟨_, he, Nat.le_refl _, hc, hb⟩

/-- true, and nothing that was there has turned -/
def YesB (w : World) (e : Ending) (w' : World) : Prop := e = .returned (.bool true) ∧ Below w.heap.size w w'
/-- how a slice's length is taken from what is left -/
theorem sz32_fit (a : Option Addr) (n c left : Nat) (w : World) (hn : n ≤ left) (hl : left ≤ 1048576) :
    Calls Tryd.prog 45 #[.slice a n c, .int .i64 left] w fun e w' => e = .returned (.int .i64 ((left - n : Nat) : Int)) ∧ w = w' := by
  have e : ((left : Int) - (n : Int)) = ((left - n : Nat) : Int) := by omega
  go_enter Tryd.func45, Tryd.ntmps45
  go_wp2
  go_ret
  exact ⟨by simp, rfl⟩

theorem sz32_over (a : Option Addr) (n c left : Nat) (w : World) (hn : left < n) (hm : n ≤ 9223372036854775807) (hl : left ≤ 1048576) :
    Calls Tryd.prog 45 #[.slice a n c, .int .i64 left] w fun e w' => e = .returned (.int .i64 (-1)) ∧ w = w' := by
  go_enter Tryd.func45, Tryd.ntmps45
  go_wp2
  go_ret
  exact ⟨rfl, rfl⟩
end Go.Proofs.YtbgldggaiefhoaaDoor

/- The text of a list of numbers: the program's side, whatever the list. -/
namespace Go.Proofs.YtbgldggaiefhoaaDoor
open Go.RowKit
set_option linter.unusedVariables false

/-- a text, or none -/
def TxB (t : ByteArray) (ok : Bool) (w : World) (e : Ending) (w' : World) : Prop := e = .returned (.tuple #[.string (bif ok then t else ⟨#[]⟩), .bool ok]) ∧ Below w.heap.size w w'
def fewB (zs : List Nat) : Bool := decide (zs.length ≤ 256)
set_option maxRecDepth 20000 in
theorem joinOver_any (v : Value) (zs : List Nat) (w : World) (h : FRow w v zs) (hl : 256 < zs.length) : Calls Tryd.prog 118 #[v, .int .i64 256, .func (.func 119) #[] #[]] w fun e w' => e = .returned (.tuple #[.string ⟨#[]⟩, .bool false]) ∧ Below w.heap.size w w' := by
  obtain ⟨a, cap, rfl⟩ := h.shape
  have HL := h.len
  have hd : decide ((256 : Int) < (zs.length : Int)) = true := by simp; omega
  clear h
  go_enter Tryd.func118, Tryd.ntmps118
  go_wp2
  go_ret2
  exact ⟨rfl, Below.refl _ _⟩
set_option maxRecDepth 20000 in
theorem implNT_any (v : Value) (zs : List Nat) (w : World) (h : FRow w v zs) (hw : ∀ i, i < zs.length → (Lit.float .f32 (zs.getD i 0)).wf = true) (ht : Tabs w) : Calls Tryd.prog 78 #[v] w (TxB (nTx zs) (fewB zs) w) := by
  have HJ : Hid (Calls Tryd.prog 118 #[v, .int .i64 256, .func (.func 119) #[] #[]] w (TxB (nTx zs) (fewB zs) w)) := Lib.hid (by
    unfold TxB fewB
    by_cases hl : zs.length ≤ 256
    · rw [decide_eq_true hl]; exact joinHex_any v zs w h hw hl ht
    · rw [decide_eq_false hl]; exact joinOver_any v zs w h (by omega))
  clear h hw ht
  unfold TxB at *
  generalize (bif fewB zs then nTx zs else (⟨#[]⟩ : ByteArray)) = T at *
  generalize fewB zs = ok at *
  go_enter Tryd.func78, Tryd.ntmps78
  go_wp2_with fail
  refine HJ.out.mono ?_
  rintro e w1 ⟨rfl, hb⟩
  have B := Lib.hid hb
  clear hb
  go_wp2
  go_ret2
  exact ⟨rfl, B.out⟩

end Go.Proofs.YtbgldggaiefhoaaDoor

/- The texts of several lists of numbers: the program's side. -/
namespace Go.Proofs.YtbgldggaiefhoaaDoor
open Go.RowKit
set_option linter.unusedVariables false

/-- the numbers of a list are numbers, and there are at most 256 -/
def LOk (zs : List Nat) : Prop := zs.length ≤ 256 ∧ ∀ i, i < zs.length → (Lit.float .f32 (zs.getD i 0)).wf = true
theorem nTx_size {zs : List Nat} (h : zs.length ≤ 256) : (nTx zs).size ≤ 2304 := by
  unfold nTx
  cases zs with
  | nil => decide
  | cons x r =>
    have := jn_size 44 8 ((x :: r).map hexZ) (hexs_le _)
    rw [List.length_map] at this
    show (jn 44 ((x :: r).map hexZ)).size ≤ 2304
    omega
/-- a row of lists -/
structure LRows (w : World) (bk : Nat) (vs : List Value) (ls : List (List Nat)) : Prop where
  len : vs.length = ls.length
  cell : ∀ j, j < ls.length → w.cell? ⟨bk, j, none⟩ = some (vs.getD j default)
  row : ∀ j, j < ls.length → FRow w (vs.getD j default) (ls.getD j [])
  ok : ∀ j, j < ls.length → LOk (ls.getD j [])
theorem LRows.below {w w' : World} {bk : Nat} {vs : List Value} {ls : List (List Nat)} (h : LRows w bk vs ls) (hb : Below w.heap.size w w') : LRows w' bk vs ls :=
  ⟨h.len, fun j hj => (hb.cell (p := ⟨bk, j, none⟩) (cell_lt (h.cell j hj))).trans (h.cell j hj), fun j hj => (h.row j hj).below hb, h.ok⟩
theorem ntxs_le (ls : List (List Nat)) (h : ∀ j, j < ls.length → LOk (ls.getD j [])) : ∀ x ∈ ls.map nTx, x.size ≤ 2304 := by
  intro x hx
  obtain ⟨l, hl, rfl⟩ := List.mem_map.1 hx
  obtain ⟨j, hj, rfl⟩ := List.getElem_of_mem hl
  have := (h j hj).1
  rw [List.getD_eq_getElem?_getD, List.getElem?_eq_getElem hj] at this
  exact nTx_size this

set_option maxHeartbeats 1600000 in
set_option maxRecDepth 20000 in
theorem textLists_any (bk : Nat) (vs : List Value) (ls : List (List Nat)) (w : World) (h : LRows w bk vs ls) (h1 : 1 ≤ ls.length) (h8 : ls.length ≤ 8) (ht : Tabs w) : Calls Tryd.prog 43 #[.slice (some ⟨bk, 0, none⟩) ls.length ls.length] w fun e w' => e = .returned (.string (jn 59 (ls.map nTx))) ∧ Below w.heap.size w w' := by
  have HT := Lib.hid ht
  have HR := Lib.hid h
  have HH := Lib.hid (fun k (hk : k < ls.length) (w1 : World) (hT : Tabs w1) (hr : FRow w1 (vs.getD k default) (ls.getD k [])) => show Calls Tryd.prog 78 #[vs.getD k default] w1 (fun e w' => e = .returned (.tuple #[.string (nTx (ls.getD k [])), .bool true]) ∧ Below w1.heap.size w1 w') from by
    have := implNT_any (vs.getD k default) (ls.getD k []) w1 hr (h.ok k hk).2 hT
    unfold TxB fewB at this
    rw [decide_eq_true (h.ok k hk).1] at this
    exact this)
  have hmk := run_make_row' (P := Tryd.prog) 108 9 (.string ⟨#[]⟩) 16 Tryd.underlying108 Tryd.rowOfZ rfl .i64 .i64 ls.length (by omega) (by omega)
  have HJ := Lib.hid (fun (w1 : World) (b : Nat) (hcells : ∀ (j : Nat) x, (ls.map nTx)[j]? = some x → w1.cell? ⟨b, 0 + j, none⟩ = some (.string x)) (hbk : b < w1.heap.size) =>
    show Calls Tryd.prog 79 #[.slice (some ⟨b, 0, none⟩) (ls.map nTx).length ls.length, .string ⟨#[59]⟩] w1 (fun e w' => e = .returned (.string (jn 59 (ls.map nTx))) ∧ Below w1.heap.size w1 w') from Tryd.strings_Join b 0 ls.length (ls.map nTx) ⟨#[59]⟩ w1 hcells hbk (by rw [List.length_map]; omega) (by rw [List.length_map]; exact Nat.le_refl _) (by
      have := jn_len 59 2304 (ls.map nTx) (ntxs_le ls h.ok)
      rw [List.length_map] at this
      show (Lib.join _ [59]).length ≤ _
      omega))
  have HG := Lib.hid (fun j (hj : j < ls.length) => show (ls.map nTx)[j]? = some (nTx (ls.getD j [])) by rw [List.getElem?_map, List.getElem?_eq_getElem hj, List.getD_eq_getElem?_getD, List.getElem?_eq_getElem hj]; rfl)
  have HC := Lib.hid (fun (w1 : World) (hb : Below w.heap.size w w1) k (hk : k < ls.length) => (hb.cell (p := ⟨bk, k, none⟩) (cell_lt (h.cell k hk))).trans (h.cell k hk))
  have HLm : Hid ((ls.map nTx).length = ls.length) := Lib.hid (List.length_map _)
  have HRow := Lib.hid (fun (w1 : World) (hb : Below w.heap.size w w1) k (hk : k < ls.length) => (h.below hb).row k hk)
  have HV := Lib.hid (fun k (hk : k < ls.length) => (h.row k hk).shape)
  clear h ht
  generalize jn 59 (ls.map nTx) = T at *
  generalize hlen : ls.length = n at *
  have HL := Lib.hid hlen
  clear hlen HR
  have R0 := Lib.hid ((World.rowIs_made w (.string ⟨#[]⟩) n 9).congr (g := fun j => .string (if j < 0 then nTx (ls.getD j []) else ⟨#[]⟩)) (fun j _ => by simp))
  go_enter Tryd.func43, Tryd.ntmps43
  go_wp2
  go_loopw [11] (fun i wr => ∃ k : Nat, k ≤ n ∧ i = .int .i64 k ∧ Hid (Below w.heap.size w wr) ∧ Hid (wr.rowIs w.heap.size 9 n (fun j => .string (if j < k then nTx (ls.getD j []) else ⟨#[]⟩)))) (fun i _ => n - (intOf i).toNat)
  case atStart => exact ⟨0, by omega, rfl, Lib.hid (below_al1 w _), R0⟩
  case round =>
    obtain ⟨k, hk, rfl, hb, hr⟩ := hrel
    by_cases hlt : k < n
    · have c0 := HC.out _ hb.out k hlt
      have HA := Lib.hid (HH.out k hlt wr (HT.out.below hb.out) (HRow.out _ hb.out k hlt))
      obtain ⟨a, cap, hv⟩ := HV.out k hlt
      rw [hv] at c0 HA
      clear hv
      go_wp2_with fail
      refine HA.out.mono ?_
      rintro e w2 ⟨rfl, hb2⟩
      have B2 := Lib.hid (below_step hb.out hb2)
      have R2 := Lib.hid (hr.out.of_block (hb2.block _ hr.out.lt))
      clear hb2 c0
      have C1 := R2.out.cell hlt
      have F1 := R2.out.frozen k
      have R3 := Lib.hid (R2.out.set k (.string (nTx (ls.getD k []))))
      have B3 := Lib.hid (B2.out.setCell (p := ⟨w.heap.size, k, none⟩) (Nat.le_refl _) (.string (nTx (ls.getD k []))))
      have HX := Lib.hid (fun j => show (if j = k then (.string (nTx (ls.getD k [])) : Value) else .string (if j < k then nTx (ls.getD j []) else ⟨#[]⟩)) = .string (if j < k + 1 then nTx (ls.getD j []) else ⟨#[]⟩) by
        by_cases e : j = k
        · subst e; rw [if_pos rfl, if_pos (by omega)]
        · rw [if_neg e]
          by_cases e2 : j < k
          · rw [if_pos e2, if_pos (by omega)]
          · rw [if_neg e2, if_neg (by omega)])
      rw [if_neg (Nat.lt_irrefl k)] at C1
      generalize nTx (ls.getD k []) = y at *
      go_wp2
      go_roundw
      case rel => exact ⟨k + 1, by omega, by go_num, B3, Lib.hid (R3.out.congr (fun j _ => HX.out j))⟩
      case measure => simp [intOf]; omega
    · have e : k = n := by omega
      subst e
      have HA := HJ.out wr w.heap.size (fun j x hx => by
        have hj : j < k := by
          by_cases hj : j < k
          · exact hj
          · rw [List.getElem?_eq_none (by rw [HLm.out]; omega)] at hx; cases hx
        rw [HG.out j hj] at hx
        cases hx
        rw [Nat.zero_add, hr.out.cell hj, if_pos hj]) hr.out.lt
      rw [HLm.out] at HA
      have HA := Lib.hid HA
      clear HJ
      go_wp2_with fail
      refine HA.out.mono ?_
      rintro e w2 ⟨rfl, hb2⟩
      have B2 := Lib.hid (below_step hb.out hb2)
      clear hb2
      go_wp2
      go_ret
      exact ⟨rfl, B2.out⟩
end Go.Proofs.YtbgldggaiefhoaaDoor

/- Drawn regions that make memory in any order: what a slot holds may bear a fact on the world (a block's cells) that stays true while nothing that was there turns. One walk in the order of the text serves every order; a tail (stores) runs in the order of the text. -/
namespace Go.Proofs.YtbgldggaiefhoaaDoor
open Go.RowKit

section
variable {P : Program} {ops : Array Oper} {md : Region.Mode} {C : World → Prop} {T : Nat → Value → World → Prop}

/-- stays true while nothing that was there turns -/
def Pers (φ : World → Prop) : Prop := ∀ w w', φ w → Below w.heap.size w w' → φ w'

/-- which slots bear a fact on which value -/
abbrev SEnv := Nat → Value → Prop
def Facts (T : Nat → Value → World → Prop) (E : SEnv) (w : World) : Prop := ∀ d v, E d v → T d v w
def FNeed (T : Nat → Value → World → Prop) (ops : Array Oper) (o : Oper) (E : SEnv) (w : World) : Prop := ∀ d v, d ∈ o.looksAt ops → E d v → T d v w
def fNext (ops : Array Oper) (o : Oper) (E : SEnv) (a : Act) (v : Value) : SEnv := fun x u => E x u ∨ (Region.wanted o (yielded ops a.tmps) = true ∧ o.dst = some x ∧ u = v)

def FGoodR (P : Program) (T : Nat → Value → World → Prop) (o : Oper) (w : World) : Result Next → Prop
  | .ok (.value v) w' => Below w.heap.size w w' ∧ ∀ d, o.dst = some d → T d v w'
  | .ok .skip w' => Below w.heap.size w w' ∧ ∀ d, o.dst = some d → T d undef w'
  | .ok (.enter f args) w' => Below w.heap.size w w' ∧ Calls P f args w' (fun e w'' => ∃ v, e = .returned v ∧ Below w.heap.size w w'' ∧ ∀ d, o.dst = some d → T d v w'')
  | _ => False
def FValR (T : Nat → Value → World → Prop) (o : Oper) (v : Value) : Result Next → Prop
  | .ok (.value u) w' => v = u ∧ ∀ d, o.dst = some d → T d v w'
  | .ok .skip _ => v = undef
  | .ok (.enter _ _) _ => ∃ w', ∀ d, o.dst = some d → T d v w'
  | _ => False

def fGood (P : Program) (ops : Array Oper) (C : World → Prop) (T : Nat → Value → World → Prop) (o : Oper) (E : SEnv) (a : Act) : Prop :=
  Region.wanted o (yielded ops a.tmps) = true → ∀ w, C w → FNeed T ops o E w → FGoodR P T o w ((execOp a.eval o).run P w)
def fVal (P : Program) (ops : Array Oper) (C : World → Prop) (T : Nat → Value → World → Prop) (o : Oper) (E : SEnv) (a : Act) (v : Value) : Prop :=
  (Region.wanted o (yielded ops a.tmps) = true ∧ ∃ w, C w ∧ FNeed T ops o E w ∧ FValR T o v ((execOp a.eval o).run P w)) ∨ (Region.wanted o (yielded ops a.tmps) = false ∧ v = undef)

def wpFacts (P : Program) (ops : Array Oper) (C : World → Prop) (T : Nat → Value → World → Prop) (Q : SEnv → Act → Prop) : List Oper → SEnv → Act → Prop
  | [], E, a => Q E a
  | o :: rest, E, a => fGood P ops C T o E a ∧ ∀ v, fVal P ops C T o E a v → wpFacts P ops C T Q rest (fNext ops o E a v) (a.put o.dst v)

def fOp (P : Program) (ops : Array Oper) (C : World → Prop) (T : Nat → Value → World → Prop) (i : Nat) (K : SEnv → Act → Prop) (E : SEnv) (a : Act) : Prop :=
  match ops[i]? with
  | none => K E a
  | some o => fGood P ops C T o E a ∧ ∀ v, fVal P ops C T o E a v → K (fNext ops o E a v) (a.put o.dst v)

def Sat (C : World → Prop) (T : Nat → Value → World → Prop) (E : SEnv) : Prop := ∃ w, C w ∧ Facts T E w

/-- operations that only hand a value on: they may come as late as they like -/
def lateOp (o : Oper) : Bool := o.guard.isNone && match o.op with | .extract .. | .move _ | .assign _ => true | _ => false
def lateAt (ops : Array Oper) (late : List Nat) (i : Nat) : Bool := late.contains i && match ops[i]? with | some o => lateOp o | none => false

theorem late_all {o : Oper} {a : Act} (h : lateOp o = true) {v : Value} {w w' : World} (hr : (execOp a.eval o).run P w = .ok (.value v) w') : ∀ u, (execOp a.eval o).run P u = .ok (.value v) u := by
  simp only [lateOp, Bool.and_eq_true] at h
  obtain ⟨_, h⟩ := h
  unfold execOp at *
  cases e : o.op <;> simp only [e] at h hr ⊢ <;> first | (cases h; done) | skip
  case move x => intro u; cases hr; rfl
  case assign x => intro u; cases hr; rfl
  case extract t ix =>
    intro u
    revert hr
    simp only [Instr.extract]
    cases a.eval t with
    | tuple vs =>
      cases hv : vs[ix]? with
      | none => intro hr; simp [hv] at hr
      | some x => intro hr; simp only [hv] at hr ⊢; cases hr; rfl
    | _ => intro hr; cases hr

def wpAnyF (P : Program) (md : Region.Mode) (ops : Array Oper) (late : List Nat) (C : World → Prop) (T : Nat → Value → World → Prop) (n : Nat) (L : Array Bool → SEnv → Act → Prop) : Nat → Array Bool → SEnv → Act → Prop
  | 0, listed, E, a => Sat C T E → L listed E a
  | f + 1, listed, E, a => Sat C T E →
    (∃ m ∈ Region.ready md ops listed, m < n) ∧ ∀ i ∈ Region.ready md ops listed, (i < n → fOp P ops C T i (wpAnyF P md ops late C T n L f (listed.setIfInBounds i true)) E a) ∧
      (n ≤ i → ∀ m, m < n → listed.getD m true = false → lateAt ops late m = true)

theorem Facts.need {E : SEnv} {o : Oper} {w : World} (h : Facts T E w) : FNeed T ops o E w := fun d v _ hv => h d v hv
theorem Facts.next {E : SEnv} {o : Oper} {a : Act} {w w' : World} {v : Value} (hT : ∀ d v, Pers (T d v)) (h : Facts T E w) (hb : Below w.heap.size w w') (hv : Region.wanted o (yielded ops a.tmps) = true → ∀ d, o.dst = some d → T d v w') : Facts T (fNext ops o E a v) w' := by
  intro d u hu
  rcases hu with hu | ⟨hw, hd, rfl⟩
  · exact hT d u _ _ (h d u hu) hb
  · exact hv hw d hd

theorem wpOp_of_fOp {i : Nat} {E : SEnv} {a : Act} {K : SEnv → Act → Prop} {K' : Act → World → Prop} {Q' : Exit → Act → World → Prop} {w : World} (hpC : Pers C) (hpT : ∀ d v, Pers (T d v)) (hC : C w) (hF : Facts T E w)
    (h : ∀ E a w', C w' → Facts T E w' → K E a → K' a w') (hh : fOp P ops C T i K E a) : wpOp P ops Q' i K' a w := by
  unfold fOp at hh
  unfold wpOp
  split
  · rename_i ho; simp only [ho] at hh; exact h _ _ _ hC hF hh
  · rename_i o ho
    simp only [ho] at hh
    obtain ⟨hg, hv⟩ := hh
    split
    · rename_i hw
      refine .inl ?_
      have h1 := hg hw w hC hF.need
      have h2 : ∀ v, FValR T o v ((execOp a.eval o).run P w) → K (fNext ops o E a v) (a.put o.dst v) := fun v hv' => hv v (.inl ⟨hw, w, hC, hF.need, hv'⟩)
      unfold Oper.wp
      generalize (execOp a.eval o).run P w = r at *
      cases r with
      | ok n w' =>
        cases n <;> simp only [FGoodR] at h1 <;> simp only [Oper.upon]
        case value u => exact h _ _ _ (hpC _ _ hC h1.1) (hF.next hpT h1.1 fun _ d hd => h1.2 d hd) (h2 u ⟨rfl, h1.2⟩)
        case skip => exact h _ _ _ (hpC _ _ hC h1.1) (hF.next hpT h1.1 fun _ d hd => h1.2 d hd) (h2 undef rfl)
        case enter f args =>
          obtain ⟨hb, hc⟩ := h1
          exact hc.mono fun e w'' ⟨v, he, hb', ht⟩ => by subst he; exact h _ _ _ (hpC _ _ hC hb') (hF.next hpT hb' fun _ d hd => ht d hd) (h2 v ⟨w'', ht⟩)
      | halt x w' => simp only [FGoodR] at h1
    · rename_i hw
      have hw' : Region.wanted o (yielded ops a.tmps) = false := by simpa using hw
      exact h _ _ _ hC (hF.next hpT (Below.refl _ _) fun hb => absurd hb hw) (hv undef (.inr ⟨hw', rfl⟩))

def lateFreeB (md : Region.Mode) (ops : Array Oper) (late : List Nat) : Bool :=
  late.all fun m => match ops[m]? with
    | none => false
    | some om => (List.range ops.size).all fun j => j == m || match ops[j]? with
      | none => true
      | some oj => oj.after.any (fun e => Region.binds md e && e.on == m) || om.after.any (fun e => Region.binds md e && e.on == j) || om.apart ops oj

theorem late_free {late : List Nat} (h : lateFreeB md ops late = true) {m : Nat} {om : Oper} (hm : ops[m]? = some om) (hl : lateAt ops late m = true) {listed : Array Bool} (hr : m ∈ Region.ready md ops listed) :
    ∀ j oj, ops[j]? = some oj → j ≠ m → listed.getD j true = false → (∀ e ∈ oj.after, Region.binds md e = true → e.on ≠ m) → om.apart ops oj = true := by
  intro j oj hj hne hun hno
  simp only [lateAt, Bool.and_eq_true] at hl
  have h1 := List.all_eq_true.1 h m (by simpa using hl.1)
  simp only [hm, List.all_eq_true, List.mem_range] at h1
  have h2 := h1 j (Array.getElem?_eq_some_iff.1 hj).1
  simp only [hj, Bool.or_eq_true, beq_iff_eq, hne, false_or] at h2
  rcases h2 with (h2 | h2) | h2
  · obtain ⟨e, he, hb⟩ := Array.any_eq_true'.1 h2
    simp only [Bool.and_eq_true, beq_iff_eq] at hb
    exact absurd hb.2 (hno e he hb.1)
  · obtain ⟨e, he, hb⟩ := Array.any_eq_true'.1 h2
    simp only [Bool.and_eq_true, beq_iff_eq] at hb
    obtain ⟨_, o, ho, hall⟩ := mem_ready.1 hr
    have : o = om := Option.some.inj (ho.symm.trans hm)
    subst this
    have h3 := hall e he hb.1
    rw [hb.2, getD_both hun] at h3
    cases h3
  · exact h2

theorem wpAny_of_headF {late : List Nat} {n g : Nat} {L : Array Bool → SEnv → Act → Prop} {Q' : Exit → Act → World → Prop} (hpC : Pers C) (hpT : ∀ d v, Pers (T d v)) (hsel : ∀ (j : Nat) (o : Oper) cs b, ops[j]? = some o → o.op ≠ .select cs b) (hlf : lateFreeB md ops late = true)
    (hQ : ∀ (d : Option Nat) v c a w, Q' (.panic c) (a.put d v) w → Q' (.panic c) a w) (hL : ∀ listed E a w, C w → Facts T E w → L listed E a → wpAny P md ops Q' g listed a w) :
    ∀ (f : Nat) (listed : Array Bool) (E : SEnv) (a : Act) (w : World), C w → Facts T E w → wpAnyF P md ops late C T n L f listed E a → wpAny P md ops Q' (f + g) listed a w
  | 0, listed, E, a, w, hw, hF, h => by rw [Nat.zero_add]; exact hL _ _ _ _ hw hF (h ⟨w, hw, hF⟩)
  | f + 1, listed, E, a, w, hw, hF, h => by
    rw [show f + 1 + g = (f + g) + 1 by omega]
    obtain ⟨⟨m, hm, hmn⟩, h⟩ := h ⟨w, hw, hF⟩
    by_cases hx : ∀ i ∈ Region.ready md ops listed, i < n
    · exact ⟨fun h0 => (by rw [h0] at hm; cases hm), fun i hi => wpOp_of_fOp hpC hpT hw hF (fun E' a' w' hw' hF' h' => wpAny_of_headF hpC hpT hsel hlf hQ hL f _ E' a' w' hw' hF' h') ((h i hi).1 (hx i hi))⟩
    · obtain ⟨i, hx⟩ := Classical.not_forall.1 hx
      obtain ⟨hi, hin⟩ := Classical.not_imp.1 hx
      have hla := (h i hi).2 (by omega) m hmn (mem_ready.1 hm).1
      obtain ⟨_, om, hom, _⟩ := mem_ready.1 hm
      have hfo := (h m hm).1 hmn
      unfold fOp at hfo
      simp only [hom] at hfo
      obtain ⟨hg, hn⟩ := hfo
      have hlo : lateOp om = true := by simp only [lateAt, hom, Bool.and_eq_true] at hla; exact hla.2
      have hwant : Region.wanted om (yielded ops a.tmps) = true := by
        simp only [lateOp, Bool.and_eq_true, Option.isNone_iff_eq_none] at hlo
        simp [Region.wanted, hlo.1]
      have h1 := hg hwant w hw hF.need
      have hy : ∃ v, (execOp a.eval om).run P w = .ok (.value v) w := by
        generalize hr : (execOp a.eval om).run P w = r at h1
        cases r with
        | ok nx w' =>
          cases nx <;> simp only [FGoodR] at h1
          case value u => exact ⟨u, by rw [← hr]; exact late_all hlo hr w⟩
          case skip =>
            simp only [lateOp, Bool.and_eq_true] at hlo
            unfold execOp at hr
            cases e : om.op <;> simp only [e] at hlo hr <;> first | (cases hlo.2; done) | skip
            · cases hr
            · cases hr
            · rename_i t ix
              exfalso
              revert hr
              simp only [Instr.extract]
              cases a.eval t with
              | tuple vs => cases hv : vs[ix]? <;> (intro hr; simp [hv] at hr)
              | _ => intro hr; cases hr
          case enter f args =>
            simp only [lateOp, Bool.and_eq_true] at hlo
            unfold execOp at hr
            cases e : om.op <;> simp only [e] at hlo hr <;> first | (cases hlo.2; done) | skip
            · cases hr
            · cases hr
            · rename_i t ix
              exfalso
              revert hr
              simp only [Instr.extract]
              cases a.eval t with
              | tuple vs => cases hv : vs[ix]? <;> (intro hr; simp [hv] at hr)
              | _ => intro hr; cases hr
        | halt x w' => simp only [FGoodR] at h1
      obtain ⟨v, hv⟩ := hy
      have hall := late_all hlo hv
      rw [hv] at h1
      refine wpAny_first (v := v) hom hsel (hQ om.dst v) _ listed a w (late_free hlf hom hla hm) hm (.inl ⟨hwant, hall⟩) ?_
      exact wpAny_of_headF hpC hpT hsel hlf hQ hL f _ _ _ w hw (hF.next hpT (Below.refl _ _) fun _ => h1.2) (hn v (.inl ⟨hwant, w, hw, hF.need, by rw [hv]; exact ⟨rfl, h1.2⟩⟩))

/-- what another operation leaves does not touch what this one does -/
theorem FNeed_put {o p : Oper} {E : SEnv} {a : Act} {u : Value} {w : World} (h : ∀ d, p.dst = some d → d ∉ o.looksAt ops) : FNeed T ops o (fNext ops p E a u) w ↔ FNeed T ops o E w := by
  constructor
  · intro k d v hd hv; exact k d v hd (.inl hv)
  · intro k d v hd hv
    rcases hv with hv | ⟨_, he, _⟩
    · exact k d v hd hv
    · exact absurd hd (h d he)
theorem fGood_put {o p : Oper} {E : SEnv} {a : Act} {u : Value} (hs : ∀ cs b, o.op ≠ .select cs b) (h : ∀ d, p.dst = some d → d ∉ o.looksAt ops) : fGood P ops C T o (fNext ops p E a u) (a.put p.dst u) ↔ fGood P ops C T o E a := by
  unfold fGood
  rw [execOp_put o hs a p.dst u h, wanted_put o a p.dst u h]
  constructor
  · intro k hw w hC hN; exact k hw w hC ((FNeed_put h).2 hN)
  · intro k hw w hC hN; exact k hw w hC ((FNeed_put h).1 hN)
theorem fVal_put {o p : Oper} {E : SEnv} {a : Act} {u v : Value} (hs : ∀ cs b, o.op ≠ .select cs b) (h : ∀ d, p.dst = some d → d ∉ o.looksAt ops) : fVal P ops C T o (fNext ops p E a u) (a.put p.dst u) v ↔ fVal P ops C T o E a v := by
  unfold fVal
  rw [execOp_put o hs a p.dst u h, wanted_put o a p.dst u h]
  simp only [FNeed_put h]
theorem fNext_comm {o p : Oper} {E : SEnv} {a : Act} {u v : Value} (ho : ∀ d, p.dst = some d → d ∉ o.looksAt ops) (hp : ∀ d, o.dst = some d → d ∉ p.looksAt ops) :
    fNext ops o (fNext ops p E a u) (a.put p.dst u) v = fNext ops p (fNext ops o E a v) (a.put o.dst v) u := by
  unfold fNext
  rw [wanted_put o a p.dst u ho, wanted_put p a o.dst v hp]
  funext x y
  exact propext or_right_comm

/-- there is a value that it may leave, and a world for it -/
theorem some_fVal (hpC : Pers C) (hpT : ∀ d v, Pers (T d v)) {o : Oper} {E : SEnv} {a : Act} (hS : Sat C T E) (hg : fGood P ops C T o E a) : ∃ v, fVal P ops C T o E a v ∧ Sat C T (fNext ops o E a v) := by
  obtain ⟨w, hC, hF⟩ := hS
  by_cases h : Region.wanted o (yielded ops a.tmps) = true
  · have h3 := hg h w hC hF.need
    have : ∃ v, FValR T o v ((execOp a.eval o).run P w) ∧ ∃ w', Below w.heap.size w w' ∧ ∀ d, o.dst = some d → T d v w' := by
      generalize (execOp a.eval o).run P w = r at *
      cases r with
      | ok n w' =>
        cases n <;> simp only [FGoodR] at h3
        case value u => exact ⟨u, ⟨rfl, h3.2⟩, w', h3⟩
        case skip => exact ⟨undef, rfl, w', h3⟩
        case enter f args =>
          obtain ⟨e, w'', fr, ⟨v, _, hb, ht⟩, _⟩ := h3.2 []
          exact ⟨v, ⟨w'', ht⟩, w'', hb, ht⟩
      | halt x w' => simp only [FGoodR] at h3
    obtain ⟨v, hv, w', hb, ht⟩ := this
    exact ⟨v, .inl ⟨h, w, hC, hF.need, hv⟩, w', hpC _ _ hC hb, hF.next hpT hb fun _ => ht⟩
  · exact ⟨undef, .inr ⟨by simpa using h, rfl⟩, w, hC, hF.next hpT (Below.refl _ _) fun hb => absurd hb h⟩

theorem Sat.sub {E E' : SEnv} (h : Sat C T E') (hs : ∀ d v, E d v → E' d v) : Sat C T E := by
  obtain ⟨w, hC, hF⟩ := h
  exact ⟨w, hC, fun d v hv => hF d v (hs d v hv)⟩

theorem wpAnyF_first {late : List Nat} (hpC : Pers C) (hpT : ∀ d v, Pers (T d v)) {n i : Nat} {oi : Oper} {L : Array Bool → SEnv → Act → Prop} (hi : ops[i]? = some oi) (hsel : ∀ (j : Nat) (o : Oper) cs b, ops[j]? = some o → o.op ≠ .select cs b)
    (hw : ∀ listed, HeadInv md ops n listed → ∀ i, i < n → lateAt ops late i = false → listed.getD i true = false → ∀ t, n ≤ t → t ∉ Region.ready md ops listed) (hin : i < n)
    (hdone : ∀ listed E a, L listed E a → ∀ j ∈ Region.ready md ops listed, n ≤ j) :
    ∀ (f : Nat) (listed : Array Bool) (E : SEnv) (a : Act), HeadInv md ops n listed →
      (∀ j oj, ops[j]? = some oj → j ≠ i → listed.getD j true = false → (∀ e ∈ oj.after, Region.binds md e = true → e.on ≠ i) → oi.apart ops oj = true) →
      i ∈ Region.ready md ops listed → (Sat C T E → fGood P ops C T oi E a) →
      (∀ v, fVal P ops C T oi E a v → wpAnyF P md ops late C T n L f (listed.setIfInBounds i true) (fNext ops oi E a v) (a.put oi.dst v)) → wpAnyF P md ops late C T n L (f + 1) listed E a := by
  intro f
  induction f with
  | zero =>
    intro listed E a inv _ hr hy H hS
    have hy := hy hS
    have hun := (mem_ready.1 hr).1
    refine ⟨⟨i, hr, hin⟩, fun j hj => ⟨fun hjn => ?_, fun hjn m hm hmu => ?_⟩⟩
    case refine_2 =>
      cases hl : lateAt ops late m with
      | true => rfl
      | false => exact absurd hj (hw _ inv m hm hl hmu j hjn)
    by_cases hji : j = i
    · subst hji
      unfold fOp; simp only [hi]
      exact ⟨hy, H⟩
    · obtain ⟨v, hv, hS'⟩ := some_fVal hpC hpT hS hy
      have := hdone _ _ _ (H v hv hS') j (ready_mono hj hji)
      omega
  | succ f ih =>
    intro listed E a inv hfree hr hy H hS
    have hy := hy hS
    have hun := (mem_ready.1 hr).1
    refine ⟨⟨i, hr, hin⟩, fun j hj => ⟨fun hjn => ?_, fun hjn m hm hmu => ?_⟩⟩
    case refine_2 =>
      cases hl : lateAt ops late m with
      | true => rfl
      | false => exact absurd hj (hw _ inv m hm hl hmu j hjn)
    by_cases hji : j = i
    · subst hji
      unfold fOp; simp only [hi]
      exact ⟨hy, H⟩
    · obtain ⟨hjun, oj, hoj, hall⟩ := mem_ready.1 hj
      have hnot : ∀ e ∈ oj.after, Region.binds md e = true → e.on ≠ i := fun e he hb heq => by
        have h1 := hall e he hb
        rw [heq, getD_both hun] at h1
        cases h1
      have hap := hfree j oj hoj hji hjun hnot
      obtain ⟨q1, q2, q3⟩ := Oper.apart_spec hap
      have hfree' : ∀ k ok, ops[k]? = some ok → k ≠ i → (listed.setIfInBounds j true).getD k true = false →
          (∀ e ∈ ok.after, Region.binds md e = true → e.on ≠ i) → oi.apart ops ok = true := fun k ok hk hki hun hno => by
        refine hfree k ok hk hki ?_ hno
        by_cases hjk : j = k
        · subst hjk; exact hjun
        · rw [getD_set_ne true hjk] at hun; exact hun
      have si := fun cs b => hsel i oi cs b hi
      have sj := fun cs b => hsel j oj cs b hoj
      obtain ⟨v0, hv0, hS0⟩ := some_fVal hpC hpT hS hy
      have step : ∀ v, fVal P ops C T oi E a v → Sat C T (fNext ops oi E a v) → fGood P ops C T oj E a ∧ ∀ u, fVal P ops C T oj E a u → wpAnyF P md ops late C T n L f ((listed.setIfInBounds i true).setIfInBounds j true) (fNext ops oj (fNext ops oi E a v) (a.put oi.dst v) u) ((a.put oi.dst v).put oj.dst u) := fun v hv hs => by
        have h1 := ((H v hv hs).2 j (ready_mono hj hji)).1 hjn
        unfold fOp at h1
        simp only [hoj] at h1
        exact ⟨(fGood_put sj q1).1 h1.1, fun u hu => h1.2 u ((fVal_put sj q1).2 hu)⟩
      unfold fOp
      simp only [hoj]
      refine ⟨(step v0 hv0 hS0).1, fun u hu => ?_⟩
      refine ih (listed.setIfInBounds j true) (fNext ops oj E a u) (a.put oj.dst u) (inv.set hj hjn) hfree' (ready_mono hr (Ne.symm hji)) (fun _ => (fGood_put si q3).2 hy) fun v hv => ?_
      have hv' : fVal P ops C T oi E a v := (fVal_put si q3).1 hv
      rw [Array.setIfInBounds_comm _ _ hji, ← Act.put_comm a v u q2, fNext_comm q3 q1]
      have key := fun hs => (step v hv' hs).2 u hu
      have hsub : ∀ d x, fNext ops oi E a v d x → fNext ops oj (fNext ops oi E a v) (a.put oi.dst v) u d x := fun d x h => .inl h
      cases f with
      | zero => exact fun hs => key (hs.sub hsub) hs
      | succ f => exact fun hs => key (hs.sub hsub) hs

theorem wpAnyF_lex {late : List Nat} (hpC : Pers C) (hpT : ∀ d v, Pers (T d v)) {n g : Nat} {Lq : SEnv → Act → Prop} (hsel : Region.noSelect ops = true)
    (hw : ∀ listed, HeadInv md ops n listed → ∀ i, i < n → lateAt ops late i = false → listed.getD i true = false → ∀ t, n ≤ t → t ∉ Region.ready md ops listed) :
    ∀ (l : List Oper) (k : Nat) (listed : Array Bool) (E : SEnv) (a : Act), (∀ j, j < l.length → l[j]? = ops[k + j]?) → k + l.length = n → HeadInv md ops n listed →
    Region.lexHead md ops g l.length k listed = true → wpFacts P ops C T Lq l E a →
    wpAnyF P md ops late C T n (fun listed' E' a' => Region.seqB md ops g n listed' = true ∧ Lq E' a') l.length listed E a
  | [], k, listed, E, a, _, hk, _, hB, h => by
    have : k = n := by simpa using hk
    subst this
    exact fun _ => ⟨by simpa [Region.lexHead] using hB, h⟩
  | o :: l, k, listed, E, a, hl, hk, inv, hB, h => by
    have h0 : ops[k]? = some o := by simpa using (hl 0 (by simp)).symm
    simp only [List.length_cons, Region.lexHead, Bool.and_eq_true] at hB
    obtain ⟨⟨hr, hf⟩, hB'⟩ := hB
    have hkn : k < n := by simp only [List.length_cons] at hk; omega
    have hr' : k ∈ Region.ready md ops listed := by simpa using hr
    exact wpAnyF_first hpC hpT h0 (Region.noSelect_spec hsel) hw hkn (fun listed' E' a' hL => seqB_ready hL.1) l.length listed E a inv (Region.free_spec h0 hf) hr' (fun _ => h.1)
      (fun v hv => wpAnyF_lex hpC hpT hsel hw l (k + 1) _ _ _ (fun j hj => by have := hl (j + 1) (by simp; omega); simpa [Nat.add_assoc, Nat.add_comm 1 j] using this) (by simp only [List.length_cons] at hk; omega) (inv.set hr' hkn) hB' (h.2 v hv))

/-- each early operation of the head is waited for, up to operation n -/
def sinkE (md : Region.Mode) (ops : Array Oper) (late : List Nat) (n : Nat) : Bool :=
  (List.range n).all fun i => lateAt ops late i || (List.range (n + 1)).any fun j => decide (i < j) && (j == n || !lateAt ops late j) && Region.waitsFor md ops j i
theorem tail_waitsE {late : List Nat} {n : Nat} {listed : Array Bool} (hs : sinkE md ops late n = true) (hc : Region.chainB md ops n = true) (inv : HeadInv md ops n listed) :
    ∀ (d i : Nat), n - i = d → i < n → lateAt ops late i = false → listed.getD i true = false → ∀ t, n ≤ t → t ∉ Region.ready md ops listed := by
  intro d
  induction d using Nat.strongRecOn with
  | _ d ih =>
    intro i hd hi hl hun t ht hr
    obtain ⟨_, ot, hot, hall⟩ := mem_ready.1 hr
    have htlt : t < ops.size := (Array.getElem?_eq_some_iff.1 hot).1
    by_cases htn : t = n
    · subst htn
      have h1 := List.all_eq_true.1 hs i (List.mem_range.2 hi)
      rw [hl, Bool.false_or] at h1
      obtain ⟨j, hj, hj2⟩ := List.any_eq_true.1 h1
      simp only [Bool.and_eq_true, decide_eq_true_eq, Bool.or_eq_true, beq_iff_eq, Bool.not_eq_true'] at hj2
      obtain ⟨⟨hij, hjl⟩, hjw⟩ := hj2
      obtain ⟨oj, hoj, e, he, hb, hon⟩ := Region.waitsFor_spec hjw
      have hjle : j ≤ t := by have := List.mem_range.1 hj; omega
      by_cases hjt : j = t
      · subst hjt
        have : oj = ot := Option.some.inj (hoj.symm.trans hot)
        subst this
        have h2 := hall e he hb
        rw [hon, getD_both hun] at h2
        cases h2
      · cases hlj : listed.getD j false with
        | true =>
          have h2 := inv.closed j oj hoj hlj e he hb
          rw [hon, getD_both hun] at h2
          cases h2
        | false =>
          have hjs : j < listed.size := by rw [inv.size]; omega
          exact ih (t - j) (by omega) j rfl (by omega) (by rcases hjl with h | h; exact absurd h hjt; exact h) (getD_in hjs hlj) t (Nat.le_refl _) hr
    · have h1 := List.all_eq_true.1 hc t (List.mem_range.2 htlt)
      simp only [Bool.or_eq_true, decide_eq_true_eq] at h1
      rcases h1 with h1 | h1
      · omega
      · obtain ⟨o', ho', e, he, hb, hon⟩ := Region.waitsFor_spec h1
        have : o' = ot := Option.some.inj (ho'.symm.trans hot)
        subst this
        have h2 := hall e he hb
        rw [hon, getD_both (inv.tail (t - 1) (by omega) (by omega))] at h2
        cases h2

def factsTailB (md : Region.Mode) (ops : Array Oper) (late : List Nat) (n : Nat) : Bool :=
  Region.noSelect ops && decide (n < ops.size) && sinkE md ops late n && Region.chainB md ops n && lateFreeB md ops late && Region.lexHead md ops (ops.size - n) n 0 (Array.replicate ops.size false)

/-- the head in any order, the tail in the order of the text; operations of the head in 'late' only hand a value on -/
theorem wp_region_facts_tail {id : Nat} {Q : Exit → Act → World → Prop} {a : Act} {w : World} {l : List Oper} (n : Nat) (late : List Nat) (C : World → Prop) (T : Nat → Value → World → Prop) (hpC : Pers C) (hpT : ∀ d v, Pers (T d v)) (hC : C (w.drewN 1)) (hm : P.follows .mixedOrders = true) (hB : factsTailB .any l.toArray late n = true)
    (hQ : ∀ (d : Option Nat) v c a w, Q (.panic c) (a.put d v) w → Q (.panic c) a w)
    (h : wpFacts P l.toArray C T (fun E a' => ∀ w', C w' → Facts T E w' → wpList P l.toArray Q (l.drop n) a' w') (l.take n) (fun _ _ => False) a) : (Code.region id l.toArray true).wp P Q a w := by
  simp only [factsTailB, Bool.and_eq_true, decide_eq_true_eq] at hB
  obtain ⟨⟨⟨⟨⟨hsel, hn⟩, hs⟩, hc⟩, hlf⟩, hlex⟩ := hB
  have hn' : n < l.length := by simpa using hn
  have htl : (l.take n).length = n := by simp; omega
  have hdl : (l.drop n).length = l.toArray.size - n := by simp
  have inv0 : HeadInv .any l.toArray n (Array.replicate l.toArray.size false) :=
    ⟨by simp, fun j oj _ hl => (by rw [getD_replicate_false] at hl; cases hl), fun t _ ht => getD_in (by simpa using ht) (getD_replicate_false _ _)⟩
  have H := wpAnyF_lex (P := P) (C := C) (T := T) (md := .any) (g := l.toArray.size - n) (late := late) hpC hpT hsel (fun listed inv i hin hl hun => tail_waitsE hs hc inv _ i rfl hin hl hun) (l.take n) 0 _ _ a (fun j hj => by
    have hj' : j < n := by rw [htl] at hj; exact hj
    simp [hj']) (by simpa using htl) inv0 (by rw [htl]; exact hlex) h
  refine wp_region_any hm ?_
  have := wpAny_of_headF (Q' := Q) (g := l.toArray.size - n) hpC hpT (Region.noSelect_spec hsel) hlf hQ (fun listed E a' w' hw' hF' hL => by
    have := wpAny_of_seq (md := .any) (Q' := Q) (l.drop n) n listed a' w' (fun j => by simp [List.getElem?_drop]) (by rw [hdl]; exact hL.1) (hL.2 w' hw' hF')
    rwa [hdl] at this) _ _ _ _ (w.drewN 1) hC (fun _ _ h => h.elim) H
  rw [htl, show n + (l.toArray.size - n) = l.toArray.size by omega] at this
  exact this

def factsB (md : Region.Mode) (ops : Array Oper) (k : Nat) : Bool := Region.noSelect ops && Region.lexHead md ops 0 k 0 (Array.replicate k false)
/-- all in any order -/
theorem wp_region_facts {id : Nat} {Q : Exit → Act → World → Prop} {a : Act} {w : World} {l : List Oper} (C : World → Prop) (T : Nat → Value → World → Prop) (hpC : Pers C) (hpT : ∀ d v, Pers (T d v)) (hC : C (w.drewN 1)) (hm : P.follows .mixedOrders = true) (hB : factsB .any l.toArray l.length = true)
    (hQ : ∀ (d : Option Nat) v c a w, Q (.panic c) (a.put d v) w → Q (.panic c) a w)
    (h : wpFacts P l.toArray C T (fun E a' => ∀ w', C w' → Facts T E w' → Q .normal a' w') l (fun _ _ => False) a) : (Code.region id l.toArray true).wp P Q a w := by
  simp only [factsB, Bool.and_eq_true] at hB
  obtain ⟨hsel, hB⟩ := hB
  have inv0 : HeadInv .any l.toArray l.length (Array.replicate l.length false) :=
    ⟨by simp, fun j oj _ hl => (by rw [getD_replicate_false] at hl; cases hl), fun t h1 ht => absurd ht (by simpa using h1)⟩
  have H := wpAnyF_lex (P := P) (C := C) (T := T) (md := .any) (n := l.length) (g := 0) (late := []) hpC hpT hsel (fun listed inv i hin _ hun t ht hr => by
    obtain ⟨_, o, ho, _⟩ := mem_ready.1 hr
    have := (Array.getElem?_eq_some_iff.1 ho).1
    simp at this
    omega) l 0 _ _ a (fun j hj => by simp) (by simp) inv0 hB h
  refine wp_region_any hm ?_
  have := wpAny_of_headF (Q' := Q) (g := 0) hpC hpT (Region.noSelect_spec hsel) (by rfl) hQ (fun listed E a' w' hw' hF' hL => by
    unfold wpAny
    exact ⟨by simpa [Region.seqB] using hL.1, hL.2 w' hw' hF'⟩) _ _ _ _ (w.drewN 1) hC (fun _ _ h => h.elim) H
  rw [Nat.add_zero] at this
  simp only [List.size_toArray]
  exact this

/-! ### The steps -/
theorem wpFacts_mono {Q : SEnv → Act → Prop} (hQ : ∀ E E' a, (∀ d v, E d v → E' d v) → Q E a → Q E' a) : ∀ (l : List Oper) (E E' : SEnv) (a : Act), (∀ d v, E d v → E' d v) → wpFacts P ops C T Q l E a → wpFacts P ops C T Q l E' a
  | [], _, _, _, hs, h => hQ _ _ _ hs h
  | o :: l, E, E', a, hs, h => by
    refine ⟨fun hw w hC hN => h.1 hw w hC fun d v hd hv => hN d v hd (hs d v hv), fun v hv => ?_⟩
    refine wpFacts_mono hQ l (fNext ops o E a v) _ _ (fun d u hu => hu.imp (hs d u) id) (h.2 v ?_)
    rcases hv with ⟨hw, w, hC, hN, hv⟩ | hv
    · exact .inl ⟨hw, w, hC, fun d v hd hv => hN d v hd (hs d v hv), hv⟩
    · exact .inr hv

variable {Q : SEnv → Act → Prop} {a : Act} {o : Oper} {rest : List Oper} {E : SEnv}
def MonoQ (Q : SEnv → Act → Prop) : Prop := ∀ E E' a, (∀ d v, E d v → E' d v) → Q E a → Q E' a
theorem monoQ_end {K : Act → World → Prop} : MonoQ (fun E a' => ∀ w', C w' → Facts T E w' → K a' w') := fun _ _ _ hs h w' hC hF => h w' hC fun d v hv => hF d v (hs d v hv)

theorem wpFacts_nil (h : Q E a) : wpFacts P ops C T Q [] E a := h

/-- an operation whose value is known, and that bears no fact -/
theorem wpFacts_val (hgd : o.guard = none) (hQ : MonoQ Q) (hT : ∀ d, o.dst = some d → ∀ v w, T d v w) (v : Value) (hv : ∀ w, C w → ∃ w', Below w.heap.size w w' ∧ (execOp a.eval o).run P w = .ok (.value v) w')
    (h : ∀ K : Act → Prop, (∀ a, wpFacts P ops C T Q rest E a → K a) → K (a.put o.dst v)) : wpFacts P ops C T Q (o :: rest) E a := by
  have hw : Region.wanted o (yielded ops a.tmps) = true := by simp [Region.wanted, hgd]
  refine ⟨fun _ w hC _ => ?_, fun u hu => ?_⟩
  · obtain ⟨w', hb, e⟩ := hv w hC
    rw [e]; exact ⟨hb, fun d hd => hT d hd _ _⟩
  · rcases hu with ⟨_, w, hC, _, hu⟩ | ⟨hn, _⟩
    · obtain ⟨w', hb, e⟩ := hv w hC
      rw [e] at hu
      obtain ⟨rfl, _⟩ := hu
      exact wpFacts_mono hQ _ _ _ _ (fun d v h => .inl h) (h _ fun _ h => h)
    · rw [hw] at hn; cases hn

/-- an operation that hands back any of several values, or bears a fact -/
theorem wpFacts_some (hgd : o.guard = none) (d : Nat) (hd : o.dst = some d) (hv : ∀ w, C w → FNeed T ops o E w → ∃ v w', Below w.heap.size w w' ∧ T d v w' ∧ (execOp a.eval o).run P w = .ok (.value v) w')
    (h : ∀ v, (∃ w, T d v w) → wpFacts P ops C T Q rest (fun x u => E x u ∨ (x = d ∧ u = v)) (a.put o.dst v)) : wpFacts P ops C T Q (o :: rest) E a := by
  have hw : Region.wanted o (yielded ops a.tmps) = true := by simp [Region.wanted, hgd]
  refine ⟨fun _ w hC hN => ?_, fun u hu => ?_⟩
  · obtain ⟨v, w', hb, ht, e⟩ := hv w hC hN
    rw [e]; exact ⟨hb, fun d' hd' => by rw [hd] at hd'; cases hd'; exact ht⟩
  · have e : fNext ops o E a u = (fun x y => E x y ∨ (x = d ∧ y = u)) := by
      funext x y
      unfold fNext
      rw [hw, hd]
      refine propext (or_congr Iff.rfl ?_)
      constructor
      · rintro ⟨_, h1, h2⟩; cases h1; exact ⟨rfl, h2⟩
      · rintro ⟨rfl, h2⟩; exact ⟨rfl, rfl, h2⟩
    rw [e]
    rcases hu with ⟨_, w, hC, hN, hu⟩ | ⟨hn, _⟩
    · obtain ⟨v, w', hb, ht, e⟩ := hv w hC hN
      rw [e] at hu
      exact h u ⟨_, hu.2 d hd⟩
    · rw [hw] at hn; cases hn

/-- a call, by its contract -/
theorem wpFacts_call (hgd : o.guard = none) (d : Nat) (hd : o.dst = some d) (f : FuncId) (args : Array Value) (hr : ∀ w, (execOp a.eval o).run P w = .ok (.enter f args) w)
    (hc : ∀ w, C w → FNeed T ops o E w → Calls P f args w fun e w' => ∃ v, e = .returned v ∧ Below w.heap.size w w' ∧ T d v w')
    (h : ∀ v, (∃ w, T d v w) → wpFacts P ops C T Q rest (fun x u => E x u ∨ (x = d ∧ u = v)) (a.put o.dst v)) : wpFacts P ops C T Q (o :: rest) E a := by
  have hw : Region.wanted o (yielded ops a.tmps) = true := by simp [Region.wanted, hgd]
  refine ⟨fun _ w hC hN => ?_, fun u hu => ?_⟩
  · rw [hr w]
    exact ⟨Below.refl _ _, (hc w hC hN).mono fun e w' ⟨v, he, hb, ht⟩ => ⟨v, he, hb, fun d' hd' => by rw [hd] at hd'; cases hd'; exact ht⟩⟩
  · have e : fNext ops o E a u = (fun x y => E x y ∨ (x = d ∧ y = u)) := by
      funext x y
      unfold fNext
      rw [hw, hd]
      refine propext (or_congr Iff.rfl ?_)
      constructor
      · rintro ⟨_, h1, h2⟩; cases h1; exact ⟨rfl, h2⟩
      · rintro ⟨rfl, h2⟩; exact ⟨rfl, rfl, h2⟩
    rw [e]
    rcases hu with ⟨_, w, hC, hN, hu⟩ | ⟨hn, _⟩
    · rw [hr w] at hu
      obtain ⟨w', ht⟩ := hu
      exact h u ⟨w', ht d hd⟩
    · rw [hw] at hn; cases hn
end

/-- nothing that was there has turned: such a fact stays -/
theorem Pers.ext (w : World) : Pers (Ext w) := fun _ _ h hb => below_step h hb
theorem Pers.cells (p : Nat) (vs : List Value) : Pers (fun w => Cells w p vs) := fun _ _ h hb => h.kept hb
theorem Pers.true : Pers (fun _ => True) := fun _ _ _ _ => trivial
theorem Pers.ex {α : Sort _} {φ : α → World → Prop} (h : ∀ x, Pers (φ x)) : Pers (fun w => ∃ x, φ x w) := fun w w' ⟨x, hx⟩ hb => ⟨x, h x w w' hx hb⟩
theorem Pers.and {φ ψ : World → Prop} (h : Pers φ) (k : Pers ψ) : Pers (fun w => φ w ∧ ψ w) := fun w w' ⟨a, b⟩ hb => ⟨h w w' a hb, k w w' b hb⟩
theorem Pers.const (p : Prop) : Pers (fun _ => p) := fun _ _ h _ => h
end Go.Proofs.YtbgldggaiefhoaaDoor

/- The facts that slots bear, as a list; the steps for them. -/
namespace Go.Proofs.YtbgldggaiefhoaaDoor
open Go.RowKit
set_option linter.unusedVariables false

/-- a fact on a value and a world that stays true while nothing that was there turns -/
def Fct := {φ : Value → World → Prop // ∀ v, Pers (φ v)}
def TS : List (Nat × Fct) → Nat → Value → World → Prop
  | [], _, _, _ => True
  | (k, φ) :: l, d, v, w => (d = k → φ.1 v w) ∧ TS l d v w
theorem TS.pers : ∀ (l : List (Nat × Fct)) (d : Nat) (v : Value), Pers (TS l d v)
  | [], _, _ => Pers.true
  | (_, φ) :: l, d, v => fun w w' h hb => ⟨fun e => φ.2 v w w' (h.1 e) hb, TS.pers l d v w w' h.2 hb⟩
def TS.hasB : List (Nat × Fct) → Nat → Bool
  | [], _ => false
  | (k, _) :: l, d => d == k || TS.hasB l d
theorem TS.no : ∀ {l : List (Nat × Fct)} {d : Nat} (_ : TS.hasB l d = false) (v : Value) (w : World), TS l d v w
  | [], _, _, _, _ => trivial
  | (k, φ) :: l, d, h, v, w => by
    simp only [TS.hasB, Bool.or_eq_false_iff, beq_eq_false_iff_ne, ne_eq] at h
    exact ⟨fun e => absurd e h.1, TS.no h.2 v w⟩
def TS.findB : List (Nat × Fct) → Nat → Option Fct
  | [], _ => none
  | (k, φ) :: l, d => if d = k then (if TS.hasB l d then none else some φ) else TS.findB l d
theorem TS.mk : ∀ {l : List (Nat × Fct)} {d : Nat} {φ : Fct} (_ : TS.findB l d = some φ) {v : Value} {w : World} (_ : φ.1 v w), TS l d v w
  | [], _, _, h, _, _, _ => by cases h
  | (k, ψ) :: l, d, φ, h, v, w, hv => by
    unfold TS.findB at h
    split at h
    · rename_i e
      split at h
      · cases h
      · rename_i hb
        cases h
        exact ⟨fun _ => hv, TS.no (by simpa using hb) v w⟩
    · rename_i e
      exact ⟨fun e' => absurd e' e, TS.mk h hv⟩
theorem TS.get : ∀ {l : List (Nat × Fct)} {d : Nat} {φ : Fct} (_ : TS.findB l d = some φ) {v : Value} {w : World} (_ : TS l d v w), φ.1 v w
  | [], _, _, h, _, _, _ => by cases h
  | (k, ψ) :: l, d, φ, h, v, w, hv => by
    unfold TS.findB at h
    split at h
    · rename_i e
      split at h
      · cases h
      · cases h
        exact hv.1 e
    · exact TS.get h hv.2

/-- it is this value -/
def fIs (x : Value) : Fct := ⟨fun v _ => v = x, fun _ => Pers.const _⟩
/-- it points to a block, made since h, with these cells -/
def fBox (h : Nat) (vs : List Value) : Fct := ⟨fun v w => ∃ p, v = .pointer (some ⟨p, 0, none⟩) ∧ h ≤ p ∧ Cells w p vs, fun _ => Pers.ex fun _ => Pers.and (Pers.const _) (Pers.and (Pers.const _) (Pers.cells _ _))⟩
/-- it is a float, up to a not-a-number's bits -/
def fNum (k : FloatKind) (S : Nat) : Fct := ⟨fun v _ => ∃ r, cn k r = S ∧ v = .float k r, fun _ => Pers.const _⟩

theorem fact_of {l : List (Nat × Fct)} {E : SEnv} {w : World} {d : Nat} {φ : Fct} {v : Value} (hT : TS.findB l d = some φ) (hF : Facts (TS l) E w) (hE : E d v) : φ.1 v w := TS.get hT (hF d v hE)
theorem fact_box {l : List (Nat × Fct)} {E : SEnv} {w : World} {d h : Nat} {vs : List Value} {p : Nat} (hT : TS.findB l d = some (fBox h vs)) (hF : Facts (TS l) E w) (hE : E d (.pointer (some ⟨p, 0, none⟩))) : h ≤ p ∧ Cells w p vs := by
  obtain ⟨p', e, h1, h2⟩ := fact_of hT hF hE
  cases e
  exact ⟨h1, h2⟩

section
variable {P : Program} {ops : Array Oper} {C : World → Prop} {l : List (Nat × Fct)} {Q : SEnv → Act → Prop} {a : Act} {o : Oper} {rest : List Oper} {E : SEnv}

/-- an operation whose value is known -/
theorem wpF_val (hgd : o.guard = none) (hQ : MonoQ Q) (hT : ∀ d, o.dst = some d → TS.hasB l d = false) (v : Value) (hv : ∀ w, C w → (execOp a.eval o).run P w = .ok (.value v) w)
    (h : ∀ K : Act → Prop, (∀ a, wpFacts P ops C (TS l) Q rest E a → K a) → K (a.put o.dst v)) : wpFacts P ops C (TS l) Q (o :: rest) E a :=
  wpFacts_val hgd hQ (fun d hd v w => TS.no (hT d hd) v w) v (fun w hC => ⟨w, Below.refl _ _, hv w hC⟩) h

/-- an operation that makes a box -/
theorem wpF_alloc (hgd : o.guard = none) (d : Nat) (hd : o.dst = some d) (h0 : Nat) (vs : List Value) (t : TypeId) (hT : TS.findB l d = some (fBox h0 vs)) (hh : ∀ w, C w → h0 ≤ w.heap.size)
    (hv : ∀ w, (execOp a.eval o).run P w = .ok (.value (.pointer (some ⟨w.heap.size, 0, none⟩))) (w.alloc (.cells vs.toArray t)))
    (h : ∀ p : Nat, wpFacts P ops C (TS l) Q rest (fun x u => E x u ∨ (x = d ∧ u = .pointer (some ⟨p, 0, none⟩))) (a.put o.dst (.pointer (some ⟨p, 0, none⟩)))) : wpFacts P ops C (TS l) Q (o :: rest) E a :=
  wpFacts_some hgd d hd (fun w hC _ => ⟨_, _, below_al1 w _, TS.mk hT ⟨w.heap.size, rfl, hh w hC, Cells.made w vs t⟩, hv w⟩) (fun v ⟨_, hv⟩ => by
    obtain ⟨p, rfl, _⟩ := TS.get hT hv
    exact h p)

/-- a call whose value is known -/
theorem wpF_callV (hgd : o.guard = none) (d : Nat) (hd : o.dst = some d) (f : FuncId) (args : Array Value) (v : Value) (hT : TS.findB l d = some (fIs v)) (hr : ∀ w, (execOp a.eval o).run P w = .ok (.enter f args) w)
    (hc : ∀ w, C w → Calls P f args w fun e w' => e = .returned v ∧ Below w.heap.size w w')
    (h : wpFacts P ops C (TS l) Q rest (fun x u => E x u ∨ (x = d ∧ u = v)) (a.put o.dst v)) : wpFacts P ops C (TS l) Q (o :: rest) E a :=
  wpFacts_call hgd d hd f args hr (fun w hC _ => (hc w hC).mono fun e w' ⟨he, hb⟩ => ⟨v, he, hb, TS.mk hT rfl⟩) (fun u ⟨_, hu⟩ => by
    obtain rfl : u = v := TS.get hT hu
    exact h)

/-- a call that hands back a number -/
theorem wpF_callN (hgd : o.guard = none) (d : Nat) (hd : o.dst = some d) (f : FuncId) (args : Array Value) (k : FloatKind) (S : Nat) (hT : TS.findB l d = some (fNum k S)) (hr : ∀ w, (execOp a.eval o).run P w = .ok (.enter f args) w)
    (hc : ∀ w, C w → Calls P f args w fun e w' => ∃ r, cn k r = S ∧ e = .returned (.float k r) ∧ Below w.heap.size w w')
    (h : ∀ r, cn k r = S → wpFacts P ops C (TS l) Q rest (fun x u => E x u ∨ (x = d ∧ u = .float k r)) (a.put o.dst (.float k r))) : wpFacts P ops C (TS l) Q (o :: rest) E a :=
  wpFacts_call hgd d hd f args hr (fun w hC _ => (hc w hC).mono fun e w' ⟨r, hS, he, hb⟩ => ⟨_, he, hb, TS.mk hT ⟨r, hS, rfl⟩⟩) (fun u ⟨_, hu⟩ => by
    obtain ⟨r, hr, rfl⟩ := TS.get hT hu
    exact h r hr)

/-- a call that bears a fact -/
theorem wpF_callF (hgd : o.guard = none) (d : Nat) (hd : o.dst = some d) (f : FuncId) (args : Array Value) (φ : Fct) (hT : TS.findB l d = some φ) (hr : ∀ w, (execOp a.eval o).run P w = .ok (.enter f args) w)
    (hc : ∀ w, C w → FNeed (TS l) ops o E w → Calls P f args w fun e w' => ∃ v, e = .returned v ∧ Below w.heap.size w w' ∧ φ.1 v w')
    (h : ∀ v, (∃ w, φ.1 v w) → wpFacts P ops C (TS l) Q rest (fun x u => E x u ∨ (x = d ∧ u = v)) (a.put o.dst v)) : wpFacts P ops C (TS l) Q (o :: rest) E a :=
  wpFacts_call hgd d hd f args hr (fun w hC hN => (hc w hC hN).mono fun e w' ⟨v, he, hb, ht⟩ => ⟨v, he, hb, TS.mk hT ht⟩) (fun u ⟨w, hu⟩ => h u ⟨w, TS.get hT hu⟩)

/-- an operation on floats -/
theorem wpF_farith (hgd : o.guard = none) (d : Nat) (hd : o.dst = some d) (op : BinOp) (t : TypeId) (x y : Operand) (t' : TypeId) (ho : o.op = .binOp op t x y t') (hop : isArith op = true) (k : FloatKind) (m n : Nat)
    (hx : a.eval x = .float k m) (hy : a.eval y = .float k n) (S : Nat) (hT : TS.findB l d = some (fNum k S)) (hS : fop op k (cn k m) (cn k n) = S) (h : ∀ r, cn k r = S → wpFacts P ops C (TS l) Q rest (fun x u => E x u ∨ (x = d ∧ u = .float k r)) (a.put o.dst (.float k r))) : wpFacts P ops C (TS l) Q (o :: rest) E a := by
  refine wpFacts_some hgd d hd (fun w hC _ => ?_) (fun v ⟨_, hv⟩ => by
    obtain ⟨r, hr, rfl⟩ := TS.get hT hv
    exact h r hr)
  obtain ⟨r, j, hr, hw⟩ := run_farith (P := P) op hop t k m n w
  refine ⟨_, _, below_drewN (Below.refl _ _) j, TS.mk hT ⟨r, hr.1.trans hS, rfl⟩, ?_⟩
  have hg : (eqGuard op t x y (.float k m) (.float k n)) = pure () := by
    cases op <;> simp [isArith] at hop <;> rfl
  unfold execOp
  simp only [ho, hx, hy, hg, Sem.run_bind, Sem.run_pure, Result.andThen_ok, hw]
end
end Go.Proofs.YtbgldggaiefhoaaDoor

/- Drawn regions that make slices by literals: the fact that a slot holds such a slice. -/
namespace Go.Proofs.YtbgldggaiefhoaaDoor
open Go.RowKit
set_option linter.unusedVariables false

/-- it is a slice of n elements in a block of its own, with these cells -/
def fLit (n : Nat) (vs : List Value) : Fct := ⟨fun v w => ∃ p, v = .slice (some ⟨p, 0, none⟩) n n ∧ Cells w p vs, fun _ => Pers.ex fun _ => Pers.and (Pers.const _) (Pers.cells _ _)⟩
/-- the same, its one element a slice by itself -/
def fLit1 (n : Nat) (vs : List Value) : Fct := ⟨fun v w => ∃ q p, v = .slice (some ⟨q, 0, none⟩) 1 1 ∧ Cells w q [.slice (some ⟨p, 0, none⟩) n n] ∧ Cells w p vs, fun _ => Pers.ex fun _ => Pers.ex fun _ => Pers.and (Pers.const _) (Pers.and (Pers.cells _ _) (Pers.cells _ _))⟩
theorem lit_of {n p : Nat} {vs : List Value} {w : World} (h : (fLit n vs).1 (.slice (some ⟨p, 0, none⟩) n n) w) : Cells w p vs := by
  obtain ⟨p', e, hc⟩ := h
  cases e
  exact hc
theorem lit1_of {n q : Nat} {vs : List Value} {w : World} (h : (fLit1 n vs).1 (.slice (some ⟨q, 0, none⟩) 1 1) w) : ∃ p, Cells w q [.slice (some ⟨p, 0, none⟩) n n] ∧ Cells w p vs := by
  obtain ⟨q', p, e, hq, hp⟩ := h
  cases e
  exact ⟨p, hq, hp⟩
theorem fact_needL {l : List (Nat × Fct)} {ops : Array Oper} {o : Oper} {E : SEnv} {w : World} {d : Nat} {φ : Fct} {v : Value} (hT : TS.findB l d = some φ) (hN : FNeed (TS l) ops o E w) (hd : (o.looksAt ops).contains d = true) (hE : E d v) : φ.1 v w :=
  TS.get hT (hN d v (by simpa using hd) hE)

section
variable {P : Program} {ops : Array Oper} {C : World → Prop} {l : List (Nat × Fct)} {Q : SEnv → Act → Prop} {a : Act} {o : Oper} {rest : List Oper} {E : SEnv}
theorem wpF_lit (hgd : o.guard = none) (d : Nat) (hd : o.dst = some d) (n : Nat) (vs : List Value) (t : TypeId) (hT : TS.findB l d = some (fLit n vs))
    (hv : ∀ w, (execOp a.eval o).run P w = .ok (.value (.slice (some ⟨w.heap.size, 0, none⟩) n n)) (w.alloc (.cells vs.toArray t)))
    (h : ∀ p : Nat, wpFacts P ops C (TS l) Q rest (fun x u => E x u ∨ (x = d ∧ u = .slice (some ⟨p, 0, none⟩) n n)) (a.put o.dst (.slice (some ⟨p, 0, none⟩) n n))) : wpFacts P ops C (TS l) Q (o :: rest) E a :=
  wpFacts_some hgd d hd (fun w hC _ => ⟨_, _, below_al1 w _, TS.mk hT ⟨w.heap.size, rfl, Cells.made w vs t⟩, hv w⟩) (fun v ⟨_, hv⟩ => by
    obtain ⟨p, rfl, _⟩ := TS.get hT hv
    exact h p)
theorem wpF_lit1 (hgd : o.guard = none) (d : Nat) (hd : o.dst = some d) (n p : Nat) (vs : List Value) (t : TypeId) (hT : TS.findB l d = some (fLit1 n vs)) (hp : ∀ w, C w → FNeed (TS l) ops o E w → Cells w p vs)
    (hv : ∀ w, (execOp a.eval o).run P w = .ok (.value (.slice (some ⟨w.heap.size, 0, none⟩) 1 1)) (w.alloc (.cells [Value.slice (some ⟨p, 0, none⟩) n n].toArray t)))
    (h : ∀ q : Nat, wpFacts P ops C (TS l) Q rest (fun x u => E x u ∨ (x = d ∧ u = .slice (some ⟨q, 0, none⟩) 1 1)) (a.put o.dst (.slice (some ⟨q, 0, none⟩) 1 1))) : wpFacts P ops C (TS l) Q (o :: rest) E a :=
  wpFacts_some hgd d hd (fun w hC hN => ⟨_, _, below_al1 w _, TS.mk hT ⟨w.heap.size, p, rfl, Cells.made w _ t, (hp w hC hN).al _⟩, hv w⟩) (fun v ⟨_, hv⟩ => by
    obtain ⟨q, _, rfl, _⟩ := TS.get hT hv
    exact h q)
end
end Go.Proofs.YtbgldggaiefhoaaDoor

/- Rods: a struct of four slices of 32-bit numbers, in four cells. -/
namespace Go.Proofs.YtbgldggaiefhoaaDoor
open Go.RowKit

/-- the four lists of a rod -/
structure RL where
  W : List Nat
  E : List Nat
  H : List Nat
  T : List Nat

def RL.size (r : RL) : Nat := r.W.length + r.E.length + r.H.length + r.T.length

/-- four slices read as the lists of a rod -/
structure RRow (w : World) (a b c d : Value) (r : RL) : Prop where
  W : FRow w a r.W
  E : FRow w b r.E
  H : FRow w c r.H
  T : FRow w d r.T

theorem RRow.below {w w' : World} {a b c d : Value} {r : RL} (h : RRow w a b c d r) (hb : Below w.heap.size w w') : RRow w' a b c d r :=
  ⟨h.W.below hb, h.E.below hb, h.H.below hb, h.T.below hb⟩
theorem RRow.drewN {w : World} {a b c d : Value} {r : RL} {n : Nat} (h : RRow w a b c d r) : RRow (w.drewN n) a b c d r := ⟨h.W, h.E, h.H, h.T⟩

/-- four cells of a block that may be written -/
structure At4 (w : World) (p : Nat) (a b c d : Value) : Prop where
  c0 : w.cell? ⟨p, 0, none⟩ = some a
  c1 : w.cell? ⟨p, 1, none⟩ = some b
  c2 : w.cell? ⟨p, 2, none⟩ = some c
  c3 : w.cell? ⟨p, 3, none⟩ = some d
  f : ∀ i, w.frozen? ⟨p, i, none⟩ = false

theorem At4.lt {w : World} {p : Nat} {a b c d : Value} (h : At4 w p a b c d) : p < w.heap.size := cell_lt h.c0
theorem At4.below {w w' : World} {p B : Nat} {a b c d : Value} (h : At4 w p a b c d) (hb : Below B w w') (hp : p < B) : At4 w' p a b c d :=
  ⟨(hb.cell (p := ⟨p, 0, none⟩) hp).trans h.c0, (hb.cell (p := ⟨p, 1, none⟩) hp).trans h.c1, (hb.cell (p := ⟨p, 2, none⟩) hp).trans h.c2, (hb.cell (p := ⟨p, 3, none⟩) hp).trans h.c3,
    fun i => (hb.frozen (p := ⟨p, i, none⟩) hp).trans (h.f i)⟩
theorem At4.kept {w w' : World} {p : Nat} {a b c d : Value} (h : At4 w p a b c d) (hb : Below w.heap.size w w') : At4 w' p a b c d := h.below hb h.lt
theorem At4.drewN {w : World} {p n : Nat} {a b c d : Value} (h : At4 w p a b c d) : At4 (w.drewN n) p a b c d := ⟨h.c0, h.c1, h.c2, h.c3, h.f⟩
theorem At4.made (w : World) (a b c d : Value) (t : TypeId) : At4 (w.alloc (.cells #[a, b, c, d] t)) w.heap.size a b c d :=
  ⟨by simp, by simp, by simp, by simp, fun i => by simp⟩
theorem At4.alloc {w : World} {p : Nat} {a b c d : Value} (h : At4 w p a b c d) (o : Obj) : At4 (w.alloc o) p a b c d := h.kept ((Below.refl _ _).alloc (Nat.le_refl _) o)

end Go.Proofs.YtbgldggaiefhoaaDoor

/- Whether a number is finite: the code's own functions. -/
namespace Go.Proofs.YtbgldggaiefhoaaDoor
open Go.RowKit

theorem abs_any (r : Nat) (w : World) (hr : (Lit.float .f64 r).wf = true) : Calls Tryd.prog 172 #[.float .f64 r] w fun e w' => e = .returned (.float .f64 (r % 9223372036854775808)) ∧ w = w' := by
  have e := abs_bits r (wf64 hr)
  go_enter Tryd.func172, Tryd.ntmps172
  go_wp2
  go_ret
  exact ⟨by simp, rfl⟩

theorem isFiniteLong_any (r : Nat) (w : World) (hr : (Lit.float .f64 r).wf = true) :
    Calls Tryd.prog 126 #[.float .f64 r] w fun e w' => e = .returned (.bool (fin .f64 r)) ∧ w = w' := by
  have ho := order_self (k := .f64) (x := r)
  cases hn : nn .f64 r
  · rw [hn] at ho; simp only [Bool.false_eq_true, if_false] at ho
    have hg := abs_gt r hn
    go_enter Tryd.func126, Tryd.ntmps126
    go_wp2_with (first | (go_at_call 172; refine (abs_any _ _ hr).mono ?_; rintro e w' ⟨rfl, rfl⟩) | go_in)
    go_ret
    exact ⟨by simp, rfl⟩
  · rw [hn] at ho; simp only [if_true] at ho
    have hf := fin_nan hn
    go_enter Tryd.func126, Tryd.ntmps126
    go_wp2_with go_in
    go_ret
    exact ⟨by simp [hf], rfl⟩

theorem isFiniteLong_up {a r : Nat} (w : World) (h : UR a r) :
    Calls Tryd.prog 126 #[.float .f64 r] w fun e w' => e = .returned (.bool (fin .f32 a)) ∧ w = w' :=
  (isFiniteLong_any r w h.2).mono fun _ _ ⟨he, hw⟩ => ⟨by rw [he, fin_up h], hw⟩

theorem implFinite_any (a : Nat) (w : World) : Calls Tryd.prog 87 #[.float .f32 a] w (Bol (fin .f32 a) w) := by
  go_enter Tryd.func87, Tryd.ntmps87
  go_wp2_with (first | (refine wpList_up rfl Tryd.underlying54 Tryd.underlying83 _ rfl _ rfl ?_; intro _ _ _) | (go_at_call 126; refine (isFiniteLong_up _ (by assumption)).mono ?_; rintro e w' ⟨rfl, rfl⟩))
  go_ret
  exact ⟨rfl, _, rfl⟩

theorem specFinite_any (a : Nat) (w : World) : Calls Tryd.prog 80 #[.float .f32 a] w (Bol (fin .f32 a) w) := by
  go_enter Tryd.func80, Tryd.ntmps80
  go_wp2_with (refine wpList_farith rfl _ _ _ _ _ rfl rfl _ _ _ rfl rfl ?_; intro _ _ _)
  go_ret
  rename_i h
  exact ⟨congrArg (fun b => Ending.returned (.bool b)) (sub_zero h), _, rfl⟩
end Go.Proofs.YtbgldggaiefhoaaDoor

/- Numbers that are finite and greater than 0; whether two numbers are the same. -/
namespace Go.Proofs.YtbgldggaiefhoaaDoor
open Go.RowKit

/-- greater than 0 -/
def gt0 (a : Nat) : Bool := FloatKind.f32.format.order a 0 == some .gt
/-- finite and greater than 0 -/
def pos (a : Nat) : Bool := fin .f32 a && gt0 a

/-- a bool, and nothing that was there has turned -/
def BolB (b : Bool) (w : World) (e : Ending) (w' : World) : Prop := e = .returned (.bool b) ∧ Below w.heap.size w w'
theorem Bol.below {b : Bool} {w : World} {e : Ending} {w' : World} (h : Bol b w e w') : BolB b w e w' := by
  obtain ⟨he, n, rfl⟩ := h
  exact ⟨he, below_drewN (Below.refl _ _) n⟩

theorem results_cell1 {fn : Func} {p : Tmp} {ty : TypeId} (h : fn.results = #[.cell p ty]) (tmps : Array Value) (P : Program) (w : World) :
    (results fn tmps).run P w = ((asAddr (tmps.getD p undef)).run P w).andThen fun a w₁ => (loadVar ty a).run P w₁ := by
  simp only [results, h]
  simp [Sem.run_bind, Result.andThen]


theorem ret_bb {x b : Bool} (h : x = b) : Ending.returned (.bool b) = Ending.returned (.bool x) := by rw [h]
end Go.Proofs.YtbgldggaiefhoaaDoor

/- Numbers that are finite and greater than 0; whether two numbers are the same. -/
namespace Go.Proofs.YtbgldggaiefhoaaDoor
open Go.RowKit

theorem specAbove_any (a : Nat) (w : World) : Calls Tryd.prog 81 #[.float .f32 a] w (Bol (pos a) w) := by
  cases hf : fin .f32 a
  · go_enter Tryd.func81, Tryd.ntmps81
    go_wp2_with (go_at_call 80; refine (specFinite_any _ _).mono ?_; rw [hf]; rintro e w' ⟨rfl, n, rfl⟩)
    go_ret
    exact ⟨by simp [pos, hf], _, rfl⟩
  · go_enter Tryd.func81, Tryd.ntmps81
    go_wp2_with (go_at_call 80; refine (specFinite_any _ _).mono ?_; rw [hf]; rintro e w' ⟨rfl, n, rfl⟩)
    go_ret
    exact ⟨by simp [pos, hf, gt0], _, rfl⟩

theorem implPos_any (a : Nat) (w : World) : Calls Tryd.prog 88 #[.float .f32 a] w (Bol (pos a) w) := by
  cases hf : fin .f32 a
  · go_enter Tryd.func88, Tryd.ntmps88
    go_wp2_with (go_at_call 87; refine (implFinite_any _ _).mono ?_; rw [hf]; rintro e w' ⟨rfl, n, rfl⟩)
    go_ret
    exact ⟨by simp [pos, hf], _, rfl⟩
  · go_enter Tryd.func88, Tryd.ntmps88
    go_wp2_with (go_at_call 87; refine (implFinite_any _ _).mono ?_; rw [hf]; rintro e w' ⟨rfl, n, rfl⟩)
    go_ret
    exact ⟨by simp [pos, hf, gt0], _, rfl⟩
end Go.Proofs.YtbgldggaiefhoaaDoor

/- Copies of rods, their sizes, and the comparison of two rods. -/
namespace Go.Proofs.YtbgldggaiefhoaaDoor
open Go.RowKit

/-- the four blocks of a rod -/
structure RodAt (w : World) (p0 p1 p2 p3 : Nat) (r : RL) : Prop where
  W : Cells w p0 (fl r.W)
  E : Cells w p1 (fl r.E)
  H : Cells w p2 (fl r.H)
  T : Cells w p3 (fl r.T)
  o01 : p0 < p1
  o12 : p1 < p2
  o23 : p2 < p3
theorem RodAt.kept {w w' : World} {p0 p1 p2 p3 : Nat} {r : RL} (h : RodAt w p0 p1 p2 p3 r) (hb : Below w.heap.size w w') : RodAt w' p0 p1 p2 p3 r :=
  ⟨h.W.kept hb, h.E.kept hb, h.H.kept hb, h.T.kept hb, h.o01, h.o12, h.o23⟩
theorem RodAt.row {w : World} {p0 p1 p2 p3 : Nat} {r : RL} (h : RodAt w p0 p1 p2 p3 r) (hl : r.size ≤ 1048576) : RRow w (sl p0 r.W) (sl p1 r.E) (sl p2 r.H) (sl p3 r.T) r := by
  unfold RL.size at hl
  have hm : maxLen = 9223372036854775807 := rfl
  exact ⟨.of_cells h.W (by omega), .of_cells h.E (by omega), .of_cells h.H (by omega), .of_cells h.T (by omega)⟩
/-- a rod, by value, that reads so, in blocks of its own -/
def NewRod (r : RL) (w : World) (e : Ending) (w' : World) : Prop :=
  ∃ p0 p1 p2 p3, e = .returned (.agg #[sl p0 r.W, sl p1 r.E, sl p2 r.H, sl p3 r.T]) ∧ w.heap.size ≤ p0 ∧ RodAt w' p0 p1 p2 p3 r ∧ Below w.heap.size w w'

/-- two rods that are the same -/
structure SameRL (r r' : RL) : Prop where
  W : SameList r.W r'.W
  E : SameList r.E r'.E
  H : SameList r.H r'.H
  T : SameList r.T r'.T
theorem SameRL.refl (r : RL) : SameRL r r := ⟨.refl _, .refl _, .refl _, .refl _⟩

end Go.Proofs.YtbgldggaiefhoaaDoor

/- Only one block has turned; the laws' marks as numbers. -/
namespace Go.Proofs.YtbgldggaiefhoaaDoor
open Go.RowKit
set_option linter.unusedVariables false

/-- only block g has turned -/
structure Onl (g : Nat) (w w' : World) : Prop where
  os : w'.os = w.os
  tape : w'.tape = w.tape
  output : w'.output = w.output
  size : w'.heap.size = w.heap.size
  block : ∀ k, k ≠ g → w'.heap[k]? = w.heap[k]?
theorem Onl.refl (g : Nat) (w : World) : Onl g w w := ⟨rfl, rfl, rfl, rfl, fun _ _ => rfl⟩
theorem Onl.trans {g : Nat} {a b c : World} (h : Onl g a b) (k : Onl g b c) : Onl g a c :=
  ⟨k.os.trans h.os, k.tape.trans h.tape, k.output.trans h.output, k.size.trans h.size, fun j hj => (k.block j hj).trans (h.block j hj)⟩
theorem Onl.setCell {g : Nat} {a w : World} (h : Onl g a w) (i : Nat) (u : Value) : Onl g a (w.setCell ⟨g, i, none⟩ u) := by
  have hb := (Below.refl 0 w).setCell (p := ⟨g, i, none⟩) (Nat.zero_le _) u
  exact ⟨hb.os.trans h.os, hb.tape.trans h.tape, hb.output.trans h.output, (World.size_setCell ..).trans h.size, fun k hk => (Below.heap_setCell w ⟨g, i, none⟩ u k hk).trans (h.block k hk)⟩
theorem Onl.drewN {g n : Nat} {a w : World} (h : Onl g a w) : Onl g a (w.drewN n) := ⟨h.os, h.tape, h.output, h.size, h.block⟩
theorem Onl.below {g B : Nat} {a w : World} (h : Onl g a w) (hB : B ≤ g) : Below B a w :=
  ⟨h.os, h.tape, h.output, Nat.le_of_eq h.size.symm, fun k hk => h.block k (by omega)⟩

/-- the number k, as a 32-bit number -/
def fb (k : Nat) : Nat := floatOfInt .f32 (k : Int)
theorem fb_self (k : Nat) (h : k < 500) : (FloatKind.f32.format.order (fb k) (fb k) == some .eq) = true := by
  have : ∀ k, k < 500 → (FloatKind.f32.format.order (fb k) (fb k) == some .eq) = true := by decide +kernel
  exact this k h
theorem rowIs_below {w w' : World} {b n : Nat} {t : TypeId} {f : Nat → Value} (h : w.rowIs b t n f) (hb : Below w.heap.size w w') : w'.rowIs b t n f := by
  have hl := h.lt
  unfold World.rowIs at *
  rw [hb.block b hl]
  exact h
theorem rowIs_far {w : World} {b n q i : Nat} {t : TypeId} {f : Nat → Value} {u : Value} (h : w.rowIs b t n f) (hq : b ≠ q) : (w.setCell ⟨q, i, none⟩ u).rowIs b t n f := by
  unfold World.rowIs at *
  rw [Below.heap_setCell w ⟨q, i, none⟩ u b hq]
  exact h

/-- of what was there, only blocks in S have turned -/
structure Tur (S : Nat → Prop) (w w' : World) : Prop where
  os : w'.os = w.os
  tape : w'.tape = w.tape
  output : w'.output = w.output
  size : w.heap.size ≤ w'.heap.size
  block : ∀ k, k < w.heap.size → ¬ S k → w'.heap[k]? = w.heap[k]?
theorem Tur.trans {S : Nat → Prop} {a b c : World} (h : Tur S a b) (k : Tur S b c) : Tur S a c :=
  ⟨k.os.trans h.os, k.tape.trans h.tape, k.output.trans h.output, Nat.le_trans h.size k.size, fun j hj hs => (k.block j (Nat.lt_of_lt_of_le hj h.size) hs).trans (h.block j hj hs)⟩
theorem Tur.of_below {S : Nat → Prop} {w w' : World} (h : Below w.heap.size w w') : Tur S w w' := ⟨h.os, h.tape, h.output, h.size, fun k hk _ => h.block k hk⟩
theorem Tur.of_onl {S : Nat → Prop} {g : Nat} {w w' : World} (h : Onl g w w') (hg : S g) : Tur S w w' :=
  ⟨h.os, h.tape, h.output, Nat.le_of_eq h.size.symm, fun k _ hs => h.block k (fun e => hs (by rw [e]; exact hg))⟩
theorem Tur.below {S : Nat → Prop} {B : Nat} {w w' : World} (h : Tur S w w') (hB : ∀ k, S k → B ≤ k) (hs : B ≤ w.heap.size) : Below B w w' :=
  ⟨h.os, h.tape, h.output, h.size, fun k hk => h.block k (by omega) (fun hS => by have := hB k hS; omega)⟩
theorem Tur.cells {S : Nat → Prop} {w w' : World} {p : Nat} {vs : List Value} (h : Tur S w w') (hc : Cells w p vs) (hp : ¬ S p) : Cells w' p vs :=
  ⟨fun i v hv => (World.cell?_of_block (w := w) (h.block p hc.lt hp)).trans (hc.1 i v hv), fun i => (World.frozen?_of_block (w := w) (h.block p hc.lt hp)).trans (hc.2.1 i), Nat.lt_of_lt_of_le hc.lt h.size⟩
theorem Tur.row {S : Nat → Prop} {w w' : World} {b n : Nat} {t : TypeId} {f : Nat → Value} (h : Tur S w w') (hr : w.rowIs b t n f) (hb : ¬ S b) : w'.rowIs b t n f := by
  have hl := hr.lt
  unfold World.rowIs at *
  rw [h.block b hl hb]
  exact hr

end Go.Proofs.YtbgldggaiefhoaaDoor

/- The laws' marks: numbers written into a slice one after another, and read again. -/
namespace Go.Proofs.YtbgldggaiefhoaaDoor
open Go.RowKit
set_option linter.unusedVariables false

def mkF (f : Nat → Nat) (o n k i : Nat) : Nat := if o ≤ i ∧ i < o + n then fb (k + (i - o)) else f i
theorem mkF_zero (f : Nat → Nat) (o k i : Nat) : mkF f o 0 k i = f i := by unfold mkF; rw [if_neg (by omega)]

theorem mark_any (g o n N k c : Nat) (f : Nat → Nat) (w : World) (hr : w.rowIs g 54 N (fun i => .float .f32 (f i))) (ho : o + n ≤ N) (hn : n ≤ 48) (hk : k ≤ 400) :
    Calls Tryd.prog 23 #[.slice (some ⟨g, o, none⟩) n c, .int .i64 k] w fun e w' => e = .returned (.int .i64 ((k + n : Nat) : Int)) ∧ w'.rowIs g 54 N (fun i => .float .f32 (mkF f o n k i)) ∧ Onl g w w' := by
  have HR := Lib.hid hr
  have HO := Lib.hid ho
  clear hr ho
  go_enter Tryd.func23, Tryd.ntmps23
  go_wp2
  go_loopw [1, 5] (fun q i wr => ∃ j : Nat, j ≤ n ∧ i = .int .i64 j ∧ q = .int .i64 ((k + j : Nat) : Int) ∧ Hid (wr.rowIs g 54 N (fun i => .float .f32 (mkF f o j k i))) ∧ Hid (Onl g w wr)) (fun _ i _ => n - (intOf i).toNat)
  case atStart => exact ⟨0, Nat.zero_le _, rfl, rfl, Lib.hid (HR.out.congr (fun i _ => by rw [mkF_zero])), Lib.hid (Onl.refl g w)⟩
  case round =>
    obtain ⟨j, hj, rfl, rfl, hrow, hon⟩ := hrel
    by_cases hlt : j < n
    · have hjN : o + j < N := by have := HO.out; omega
      have e3 : wr.cell? ⟨g, o + j, none⟩ = some (.float .f32 (mkF f o j k (o + j))) := hrow.out.cell hjN
      have e4 : wr.frozen? ⟨g, o + j, none⟩ = false := hrow.out.frozen _
      generalize mkF f o j k (o + j) = old at *
      have hi : (0 : Int) ≤ (j : Int) := by omega
      have hi' : (j : Int) < (n : Int) := by omega
      go_wp2
      go_roundw
      case rel =>
        refine ⟨j + 1, by omega, by go_num, by go_num, Lib.hid ((hrow.out.set (o + j) _).congr (fun i hi => ?_)), Lib.hid (Onl.setCell hon.out _ _)⟩
        by_cases e : i = o + j
        · subst e
          simp only [if_pos, mkF]
          rw [if_pos (by omega)]
          unfold fb
          congr 2
          omega
        · rw [if_neg e]
          unfold mkF
          by_cases h1 : o ≤ i ∧ i < o + j
          · rw [if_pos h1, if_pos (by omega)]
          · rw [if_neg h1, if_neg (by omega)]
      case measure => simp [intOf]; omega
    · have e := Lib.hid (show j = n by omega)
      go_wp2
      go_ret
      have := e.out
      subst this
      exact ⟨rfl, hrow.out, hon.out⟩

theorem held_any (g o n N k c : Nat) (f : Nat → Nat) (w : World) (hr : w.rowIs g 54 N (fun i => .float .f32 (f i))) (ho : o + n ≤ N) (hn : n ≤ 48) (hk : k ≤ 400) (hf : ∀ i, i < n → f (o + i) = fb (k + i)) :
    Calls Tryd.prog 24 #[.slice (some ⟨g, o, none⟩) n c, .int .i64 k] w fun e w' => e = .returned (.int .i64 ((k + n : Nat) : Int)) ∧ w = w' := by
  have HC : Hid (∀ i, i < n → w.cell? ⟨g, o + i, none⟩ = some (.float .f32 (fb (k + i)))) := Lib.hid (fun i hi => by rw [hr.cell (by omega), hf i hi])
  clear hr ho hf
  go_enter Tryd.func24, Tryd.ntmps24
  go_wp2
  go_loop [1, 5] (fun q i => ∃ j : Nat, j ≤ n ∧ i = .int .i64 j ∧ q = .int .i64 ((k + j : Nat) : Int)) (fun _ i => n - (intOf i).toNat)
  case atStart => exact ⟨0, Nat.zero_le _, rfl, rfl⟩
  case round =>
    obtain ⟨j, hj, rfl, rfl⟩ := hrel
    by_cases hlt : j < n
    · have z0 := HC.out j hlt
      have es := fb_self (k + j) (by omega)
      have en : (FloatKind.f32.format.order (fb (k + j)) (fb (k + j)) != some .eq) = false := by simpa using es
      unfold fb at z0 es en
      rw [Int.natCast_add] at z0 es en
      have hi : (0 : Int) ≤ (j : Int) := by omega
      have hi' : (j : Int) < (n : Int) := by omega
      go_wp2
      go_round
      case rel => exact ⟨j + 1, by omega, by go_num, by go_num⟩
      case measure => simp [intOf]; omega
    · have e := Lib.hid (show j = n by omega)
      go_wp2
      go_ret
      have := e.out
      subst this
      exact ⟨rfl, rfl⟩

theorem mark_nil (k : Nat) (w : World) (hk : k ≤ 400) : Calls Tryd.prog 23 #[.slice none 0 0, .int .i64 k] w fun e w' => e = .returned (.int .i64 k) ∧ w = w' := by
  go_enter Tryd.func23, Tryd.ntmps23
  go_wp2
  go_loop [1, 5] (fun q i => i = .int .i64 0 ∧ q = .int .i64 k) (fun _ _ => 0)
  case atStart => exact ⟨rfl, rfl⟩
  case round =>
    obtain ⟨rfl, rfl⟩ := hrel
    go_wp2
    go_ret
    exact ⟨rfl, rfl⟩
theorem held_nil (k : Nat) (w : World) (hk : k ≤ 400) : Calls Tryd.prog 24 #[.slice none 0 0, .int .i64 k] w fun e w' => e = .returned (.int .i64 k) ∧ w = w' := by
  go_enter Tryd.func24, Tryd.ntmps24
  go_wp2
  go_loop [1, 5] (fun q i => i = .int .i64 0 ∧ q = .int .i64 k) (fun _ _ => 0)
  case atStart => exact ⟨rfl, rfl⟩
  case round =>
    obtain ⟨rfl, rfl⟩ := hrel
    go_wp2
    go_ret
    exact ⟨rfl, rfl⟩

/-- a rod of n cells whose four lists lie one behind the other in block g -/
def inBlk (g n : Nat) : Value := .agg #[.slice (some ⟨g, 0, none⟩) n n, .slice (some ⟨g, n, none⟩) n n, .slice (some ⟨g, 2 * n, none⟩) n n, .slice (some ⟨g, 3 * n, none⟩) n n]
theorem mkF_all (f : Nat → Nat) (n i : Nat) (hi : i < 4 * n) : mkF (mkF (mkF (mkF f 0 n 1) n n (1 + n)) (2 * n) n (1 + n + n)) (3 * n) n (1 + n + n + n) i = fb (1 + i) := by
  unfold mkF
  by_cases h3 : 3 * n ≤ i
  · rw [if_pos (by omega)]; congr 1; omega
  · rw [if_neg (by omega)]
    by_cases h2 : 2 * n ≤ i
    · rw [if_pos (by omega)]; congr 1; omega
    · rw [if_neg (by omega)]
      by_cases h1 : n ≤ i
      · rw [if_pos (by omega)]; congr 1; omega
      · rw [if_neg (by omega), if_pos (by omega)]; congr 1

end Go.Proofs.YtbgldggaiefhoaaDoor

/- Whether a rod is valid, as the specification tells. -/
namespace Go.Proofs.YtbgldggaiefhoaaDoor
open Go.RowKit

def okAt (r : RL) (k : Nat) : Bool := pos (r.W.getD k 0) && pos (r.E.getD k 0) && pos (r.H.getD k 0) && fin .f32 (r.T.getD k 0)
def lensOk (r : RL) : Bool := decide (1 ≤ r.W.length) && decide (r.W.length ≤ 48) && (r.E.length == r.W.length) && (r.H.length == r.W.length) && (r.T.length == r.W.length)
def vRod (r : RL) : Bool := lensOk r && (List.range r.W.length).all (okAt r)

theorem vRod_no {r : RL} (hl : lensOk r = true) {k : Nat} (hk : k < r.W.length) (h : okAt r k = false) : vRod r = false := by
  unfold vRod
  rw [hl, Bool.true_and, List.all_eq_false]
  exact ⟨k, by simpa using hk, by simp [h]⟩
theorem vRod_yes {r : RL} (hl : lensOk r = true) (h : ∀ j, j < r.W.length → okAt r j = true) : vRod r = true := by
  unfold vRod
  rw [hl, Bool.true_and, List.all_eq_true]
  intro x hx
  exact h x (by simpa using hx)

end Go.Proofs.YtbgldggaiefhoaaDoor

/- Whether all numbers of a list are are finite. -/
namespace Go.Proofs.YtbgldggaiefhoaaDoor
open Go.RowKit

/-- an index, or -1 -/
def Idx (b : Bool) (w : World) (e : Ending) (w' : World) : Prop := ∃ i : Int, e = .returned (.int .i64 i) ∧ decide (0 ≤ i) = b ∧ ∃ n, w' = w.drewN n
theorem any_some {f : Nat → Bool} {zs : List Nat} {k : Nat} (hk : k < zs.length) (h : f (zs.getD k 0) = true) : zs.any f = true := by
  rw [List.any_eq_true]
  refine ⟨zs.getD k 0, ?_, h⟩
  simp [List.getD_eq_getElem?_getD, hk]
theorem not_any_not (f : Nat → Bool) (zs : List Nat) : (!(zs.any (fun z => !(f z)))) = zs.all f := by
  induction zs with
  | nil => rfl
  | cons x xs ih => simp only [List.any_cons, List.all_cons, ← ih]; cases f x <;> simp
theorem any_none {f : Nat → Bool} {zs : List Nat} (h : ∀ k, k < zs.length → f (zs.getD k 0) = false) : zs.any f = false := by
  rw [List.any_eq_false]
  intro x hx
  obtain ⟨i, hi, rfl⟩ := List.mem_iff_getElem.1 hx
  have := h i hi
  simpa [List.getD_eq_getElem?_getD, hi] using this

theorem litFin_any (y q : Nat) (w : World) (hq : w.cell? ⟨q, 0, none⟩ = some (.func (.func 87) #[] #[])) :
    Calls Tryd.prog 125 #[.float .f32 y, .pointer (some ⟨q, 0, none⟩)] w (Bol (!(fin .f32 y)) w) := by
  go_enter Tryd.func125, Tryd.ntmps125
  go_wp2_with (go_at_call 87; refine (implFinite_any _ _).mono ?_; rintro e w' ⟨rfl, n, rfl⟩)
  go_ret
  exact ⟨rfl, _, rfl⟩

theorem idxFin_any (v : Value) (zs : List Nat) (q : Nat) (w : World) (h : FRow w v zs) (hq : w.cell? ⟨q, 0, none⟩ = some (.func (.func 87) #[] #[])) :
    Calls Tryd.prog 149 #[v, .func (.func 125) #[] #[.pointer (some ⟨q, 0, none⟩)]] w (Idx (zs.any (fun z => !(fin .f32 z))) w) := by
  have VS := Lib.hid (fun k (hk : k < zs.length) (h : (!(fin .f32 (zs.getD k 0))) = true) => any_some (f := fun z => !(fin .f32 z)) hk h)
  have VN := Lib.hid (fun h => any_none (f := fun z => !(fin .f32 z)) (zs := zs) h)
  have HC := Lib.hid (fun (hn : 1 ≤ zs.length) => h.cells hn)
  have HL := Lib.hid h.len
  obtain ⟨a, cap, rfl⟩ := h.shape
  clear h
  generalize hb : zs.any (fun z => !(fin .f32 z)) = b at *
  clear hb
  have HG : Hid (∀ k, zs.getD k 0 = zs.getD k 0) := Lib.hid (fun k => rfl)
  generalize hn : zs.length = n at *
  clear hn
  go_enter Tryd.func149, Tryd.ntmps149
  go_wp2
  go_loopw [5, 8] (fun _ i wr => ∃ k q : Nat, k ≤ n ∧ i = .int .i64 k ∧ Hid (∀ j, j < k → (!(fin .f32 (zs.getD j 0))) = false) ∧ wr = w.drewN q) (fun _ i _ => n - (intOf i).toNat)
  case atStart => exact ⟨0, 0, Nat.zero_le _, rfl, Lib.hid (fun j hj => absurd hj (Nat.not_lt_zero _)), rfl⟩
  case round =>
    obtain ⟨k, q, hk, rfl, hall, rfl⟩ := hrel
    by_cases hlt : k < n
    · obtain ⟨b0, o0, cap', e, hc⟩ := HC.out (by omega)
      have ea : a = some ⟨b0, o0, none⟩ := by cases e; rfl
      have z0 := hc k hlt
      have VSk := Lib.hid (VS.out k hlt)
      clear e hc
      subst ea
      have hG := HL.out
      have hi : (0 : Int) ≤ (k : Int) := by omega
      have hi' : (k : Int) < (n : Int) := by omega
      generalize hy : zs.getD k 0 = y at *
      cases B : fin .f32 y
      · have V := Lib.hid (VSk.out (by rw [B]; rfl))
        go_wp2_with (go_at_call 125; refine (litFin_any y _ _ (by simpa using hq)).mono ?_; rw [B]; rintro e w' ⟨rfl, n, rfl⟩)
        go_ret
        exact ⟨_, rfl, by rw [V.out]; simp, _, rfl⟩
      · have V := Lib.hid (show (!(fin .f32 (zs.getD k 0))) = false by rw [hy, B]; rfl)
        clear hy
        go_wp2_with (go_at_call 125; refine (litFin_any y _ _ (by simpa using hq)).mono ?_; rw [B]; rintro e w' ⟨rfl, n, rfl⟩)
        go_roundw
        case rel => exact ⟨k + 1, _, by omega, by go_num, Lib.hid (fun j hj => by rcases Nat.lt_succ_iff_lt_or_eq.1 hj with h | h; exact hall.out j h; subst h; exact V.out), rfl⟩
        case measure => simp [intOf]; omega
    · have e := Lib.hid (show k = n by omega)
      go_wp2
      go_ret
      have := e.out
      subst this
      exact ⟨_, rfl, by rw [VN.out hall.out]; rfl, _, rfl⟩

theorem allFin_any (v : Value) (zs : List Nat) (w : World) (h : FRow w v zs) : Calls Tryd.prog 86 #[v, .func (.func 87) #[] #[]] w (BolB (zs.all (fin .f32)) w) := by
  have H := Lib.hid (h.below (below_al1 w (.cells [Value.func (.func 87) #[] #[]].toArray 111)))
  have e := Lib.hid (show (!(zs.any (fun z => !(fin .f32 z)))) = zs.all (fin .f32) from not_any_not _ _)
  clear h
  go_enter Tryd.func86, Tryd.ntmps86
  go_wp2_with (first | (go_at_call 149; refine (idxFin_any _ zs _ _ H.out (by simp)).mono ?_; rintro e w' ⟨i, rfl, hi, n, rfl⟩) | go_in)
  go_ret
  exact ⟨ret_b e.out.symm, below_drewN (below_al1 _ _) _⟩

end Go.Proofs.YtbgldggaiefhoaaDoor

/- Whether all numbers of a list are greater than 0. -/
namespace Go.Proofs.YtbgldggaiefhoaaDoor
open Go.RowKit

theorem litPos_any (y q : Nat) (w : World) (hq : w.cell? ⟨q, 0, none⟩ = some (.func (.func 88) #[] #[])) :
    Calls Tryd.prog 125 #[.float .f32 y, .pointer (some ⟨q, 0, none⟩)] w (Bol (!(pos y)) w) := by
  go_enter Tryd.func125, Tryd.ntmps125
  go_wp2_with (go_at_call 88; refine (implPos_any _ _).mono ?_; rintro e w' ⟨rfl, n, rfl⟩)
  go_ret
  exact ⟨rfl, _, rfl⟩

theorem idxPos_any (v : Value) (zs : List Nat) (q : Nat) (w : World) (h : FRow w v zs) (hq : w.cell? ⟨q, 0, none⟩ = some (.func (.func 88) #[] #[])) :
    Calls Tryd.prog 149 #[v, .func (.func 125) #[] #[.pointer (some ⟨q, 0, none⟩)]] w (Idx (zs.any (fun z => !(pos z))) w) := by
  have VS := Lib.hid (fun k (hk : k < zs.length) (h : (!(pos (zs.getD k 0))) = true) => any_some (f := fun z => !(pos z)) hk h)
  have VN := Lib.hid (fun h => any_none (f := fun z => !(pos z)) (zs := zs) h)
  have HC := Lib.hid (fun (hn : 1 ≤ zs.length) => h.cells hn)
  have HL := Lib.hid h.len
  obtain ⟨a, cap, rfl⟩ := h.shape
  clear h
  generalize hb : zs.any (fun z => !(pos z)) = b at *
  clear hb
  have HG : Hid (∀ k, zs.getD k 0 = zs.getD k 0) := Lib.hid (fun k => rfl)
  generalize hn : zs.length = n at *
  clear hn
  go_enter Tryd.func149, Tryd.ntmps149
  go_wp2
  go_loopw [5, 8] (fun _ i wr => ∃ k q : Nat, k ≤ n ∧ i = .int .i64 k ∧ Hid (∀ j, j < k → (!(pos (zs.getD j 0))) = false) ∧ wr = w.drewN q) (fun _ i _ => n - (intOf i).toNat)
  case atStart => exact ⟨0, 0, Nat.zero_le _, rfl, Lib.hid (fun j hj => absurd hj (Nat.not_lt_zero _)), rfl⟩
  case round =>
    obtain ⟨k, q, hk, rfl, hall, rfl⟩ := hrel
    by_cases hlt : k < n
    · obtain ⟨b0, o0, cap', e, hc⟩ := HC.out (by omega)
      have ea : a = some ⟨b0, o0, none⟩ := by cases e; rfl
      have z0 := hc k hlt
      have VSk := Lib.hid (VS.out k hlt)
      clear e hc
      subst ea
      have hG := HL.out
      have hi : (0 : Int) ≤ (k : Int) := by omega
      have hi' : (k : Int) < (n : Int) := by omega
      generalize hy : zs.getD k 0 = y at *
      cases B : pos y
      · have V := Lib.hid (VSk.out (by rw [B]; rfl))
        go_wp2_with (go_at_call 125; refine (litPos_any y _ _ (by simpa using hq)).mono ?_; rw [B]; rintro e w' ⟨rfl, n, rfl⟩)
        go_ret
        exact ⟨_, rfl, by rw [V.out]; simp, _, rfl⟩
      · have V := Lib.hid (show (!(pos (zs.getD k 0))) = false by rw [hy, B]; rfl)
        clear hy
        go_wp2_with (go_at_call 125; refine (litPos_any y _ _ (by simpa using hq)).mono ?_; rw [B]; rintro e w' ⟨rfl, n, rfl⟩)
        go_roundw
        case rel => exact ⟨k + 1, _, by omega, by go_num, Lib.hid (fun j hj => by rcases Nat.lt_succ_iff_lt_or_eq.1 hj with h | h; exact hall.out j h; subst h; exact V.out), rfl⟩
        case measure => simp [intOf]; omega
    · have e := Lib.hid (show k = n by omega)
      go_wp2
      go_ret
      have := e.out
      subst this
      exact ⟨_, rfl, by rw [VN.out hall.out]; rfl, _, rfl⟩

theorem allPos_any (v : Value) (zs : List Nat) (w : World) (h : FRow w v zs) : Calls Tryd.prog 86 #[v, .func (.func 88) #[] #[]] w (BolB (zs.all (pos)) w) := by
  have H := Lib.hid (h.below (below_al1 w (.cells [Value.func (.func 88) #[] #[]].toArray 111)))
  have e := Lib.hid (show (!(zs.any (fun z => !(pos z)))) = zs.all (pos) from not_any_not _ _)
  clear h
  go_enter Tryd.func86, Tryd.ntmps86
  go_wp2_with (first | (go_at_call 149; refine (idxPos_any _ zs _ _ H.out (by simp)).mono ?_; rintro e w' ⟨i, rfl, hi, n, rfl⟩) | go_in)
  go_ret
  exact ⟨ret_b e.out.symm, below_drewN (below_al1 _ _) _⟩
end Go.Proofs.YtbgldggaiefhoaaDoor

/- Whether a rod is valid, as the program tells. -/
namespace Go.Proofs.YtbgldggaiefhoaaDoor
open Go.RowKit

theorem vRod_split {r : RL} (hl : lensOk r = true) : vRod r = (r.W.all pos && r.E.all pos && r.H.all pos && r.T.all (fin .f32)) := by
  have hl' := hl
  obtain ⟨⟨⟨⟨g1, g2⟩, g3⟩, g4⟩, g5⟩ : (((1 ≤ r.W.length ∧ r.W.length ≤ 48) ∧ r.E.length = r.W.length) ∧ r.H.length = r.W.length) ∧ r.T.length = r.W.length := by simpa [lensOk] using hl
  have key : ∀ (f : Nat → Bool) (zs : List Nat), zs.all f = true ↔ ∀ k, k < zs.length → f (zs.getD k 0) = true := fun f zs => by
    rw [List.all_eq_true]
    constructor
    · intro h k hk
      exact h _ (by simp [List.getD_eq_getElem?_getD, hk])
    · intro h x hx
      obtain ⟨i, hi, rfl⟩ := List.mem_iff_getElem.1 hx
      have := h i hi
      simpa [List.getD_eq_getElem?_getD, hi] using this
  unfold vRod
  rw [hl', Bool.true_and, Bool.eq_iff_iff, List.all_eq_true]
  simp only [Bool.and_eq_true, key, g3, g4, g5, List.mem_range, okAt]
  constructor
  · intro h
    exact ⟨⟨⟨fun k hk => (h k hk).1.1.1, fun k hk => (h k hk).1.1.2⟩, fun k hk => (h k hk).1.2⟩, fun k hk => (h k hk).2⟩
  · rintro ⟨⟨⟨h1, h2⟩, h3⟩, h4⟩ k hk
    exact ⟨⟨⟨h1 k hk, h2 k hk⟩, h3 k hk⟩, h4 k hk⟩

end Go.Proofs.YtbgldggaiefhoaaDoor

/- A number, and whether it is finite: what functions hand back that may fail. -/
namespace Go.Proofs.YtbgldggaiefhoaaDoor
open Go.RowKit

/-- a number if it is finite -/
def ifF (x : Nat) : Nat := if fin .f32 x then x else 0
theorem ifF_cn {x S : Nat} (h : cn .f32 x = S) : cn .f32 (ifF x) = ifF S ∧ fin .f32 x = fin .f32 S := by
  have hf : fin .f32 x = fin .f32 S := by rw [← h, fin_cn]
  refine ⟨?_, hf⟩
  unfold ifF
  rw [← hf]
  cases e : fin .f32 x
  · rfl
  · simp only [if_true]; exact h

/-- a number up to a not-a-number's bits, and a bool; nothing that was there has turned -/
def GivB (S : Nat) (b : Bool) (w : World) (e : Ending) (w' : World) : Prop := ∃ r, cn .f32 r = S ∧ e = .returned (.tuple #[.float .f32 r, .bool b]) ∧ Below w.heap.size w w'

theorem ret2_b {r : Nat} {b b' : Bool} (h : b = b') : Ending.returned (.tuple #[.float .f32 r, .bool b]) = Ending.returned (.tuple #[.float .f32 r, .bool b']) := by rw [h]
theorem GivB.num {x S : Nat} {w w' : World} (h : cn .f32 x = S) (hb : Below w.heap.size w w') : GivB (ifF S) (fin .f32 S) w (.returned (.tuple #[.float .f32 (ifF x), .bool (fin .f32 x)])) w' :=
  ⟨_, (ifF_cn h).1, ret2_b (ifF_cn h).2, hb⟩
theorem GivB.no {w w' : World} (hb : Below w.heap.size w w') : GivB 0 false w (.returned (.tuple #[.float .f32 0, .bool false])) w' := ⟨0, rfl, rfl, hb⟩

end Go.Proofs.YtbgldggaiefhoaaDoor

/- The four lists of a rod by their cells; what is told of each cell. -/
namespace Go.Proofs.YtbgldggaiefhoaaDoor
open Go.RowKit
set_option linter.unusedVariables false

/-- a 32-bit number up to a not-a-number's bits; nothing that was there has turned -/
def FlB (S : Nat) (w : World) (e : Ending) (w' : World) : Prop := ∃ x, cn .f32 x = S ∧ e = .returned (.float .f32 x) ∧ Below w.heap.size w w'
/-- .. and nothing is made -/
def FlD (S : Nat) (w : World) (e : Ending) (w' : World) : Prop := ∃ x, cn .f32 x = S ∧ e = .returned (.float .f32 x) ∧ ∃ n, w' = w.drewN n

/-- all lists of a rod are n long -/
structure Len (r : RL) (n : Nat) : Prop where
  W : r.W.length = n
  E : r.E.length = n
  H : r.H.length = n
  T : r.T.length = n
  p : 1 ≤ n
  q : n ≤ 48
theorem Len.of {r : RL} (hl : lensOk r = true) : Len r r.W.length := by
  obtain ⟨⟨⟨⟨g1, g2⟩, g3⟩, g4⟩, g5⟩ : (((1 ≤ r.W.length ∧ r.W.length ≤ 48) ∧ r.E.length = r.W.length) ∧ r.H.length = r.W.length) ∧ r.T.length = r.W.length := by simpa [lensOk] using hl
  exact ⟨rfl, g3, g4, g5, g1, g2⟩
theorem Len.ofV {r : RL} (hv : vRod r = true) : Len r r.W.length := Len.of (by unfold vRod at hv; simp only [Bool.and_eq_true] at hv; exact hv.1)

/-- four slices of n numbers each, by their cells -/
structure Lay (w : World) (n b0 o0 k0 b1 o1 k1 b2 o2 k2 b3 o3 k3 : Nat) (r : RL) : Prop where
  W : ∀ i, i < n → w.cell? ⟨b0, o0 + i, none⟩ = some (.float .f32 (r.W.getD i 0))
  E : ∀ i, i < n → w.cell? ⟨b1, o1 + i, none⟩ = some (.float .f32 (r.E.getD i 0))
  H : ∀ i, i < n → w.cell? ⟨b2, o2 + i, none⟩ = some (.float .f32 (r.H.getD i 0))
  T : ∀ i, i < n → w.cell? ⟨b3, o3 + i, none⟩ = some (.float .f32 (r.T.getD i 0))
theorem Lay.below {w w' : World} {n b0 o0 k0 b1 o1 k1 b2 o2 k2 b3 o3 k3 : Nat} {r : RL} (h : Lay w n b0 o0 k0 b1 o1 k1 b2 o2 k2 b3 o3 k3 r) (hb : Below w.heap.size w w') : Lay w' n b0 o0 k0 b1 o1 k1 b2 o2 k2 b3 o3 k3 r :=
  ⟨fun i hi => Ext.cell hb (h.W i hi), fun i hi => Ext.cell hb (h.E i hi), fun i hi => Ext.cell hb (h.H i hi), fun i hi => Ext.cell hb (h.T i hi)⟩
theorem RRow.lay {w : World} {a b c d : Value} {r : RL} {n : Nat} (h : RRow w a b c d r) (hl : Len r n) : ∃ b0 o0 k0 b1 o1 k1 b2 o2 k2 b3 o3 k3,
    a = .slice (some ⟨b0, o0, none⟩) n k0 ∧ b = .slice (some ⟨b1, o1, none⟩) n k1 ∧ c = .slice (some ⟨b2, o2, none⟩) n k2 ∧ d = .slice (some ⟨b3, o3, none⟩) n k3 ∧ Lay w n b0 o0 k0 b1 o1 k1 b2 o2 k2 b3 o3 k3 r := by
  obtain ⟨b0, o0, k0, rfl, h0⟩ := h.W.cells (by rw [hl.W]; exact hl.p)
  obtain ⟨b1, o1, k1, rfl, h1⟩ := h.E.cells (by rw [hl.E]; exact hl.p)
  obtain ⟨b2, o2, k2, rfl, h2⟩ := h.H.cells (by rw [hl.H]; exact hl.p)
  obtain ⟨b3, o3, k3, rfl, h3⟩ := h.T.cells (by rw [hl.T]; exact hl.p)
  rw [hl.W] at h0; rw [hl.E] at h1; rw [hl.H] at h2; rw [hl.T] at h3
  rw [hl.W, hl.E, hl.H, hl.T]
  exact ⟨_, _, _, _, _, _, _, _, _, _, _, _, rfl, rfl, rfl, rfl, h0, h1, h2, h3⟩

/-- what is told of a cell -/
def tW (r : RL) (k : Nat) : Nat := cn .f32 (r.W.getD k 0)
def tS (r : RL) (k : Nat) : Nat := fop .mul .f32 (cn .f32 (r.W.getD k 0)) (cn .f32 (r.H.getD k 0))
def tQ (r : RL) (k : Nat) : Nat := fop .mul .f32 (tS r k) (cn .f32 (r.T.getD k 0))
def tN (r : RL) (k : Nat) : Nat := fop .quo .f32 (cn .f32 (r.W.getD k 0)) (cn .f32 (r.E.getD k 0))
def sumT (f : Nat → Nat) (n : Nat) : Nat := (List.range n).foldl (fun s k => fop .add .f32 s (f k)) (cn .f32 0)
theorem sumT_succ (f : Nat → Nat) (k : Nat) : sumT f (k + 1) = fop .add .f32 (sumT f k) (f k) := by
  unfold sumT
  rw [List.range_succ, List.foldl_append]
  rfl
theorem cn_fop (op : BinOp) (k : FloatKind) (x y : Nat) : cn k (fop op k x y) = fop op k x y := by
  unfold fop
  cases h : floatBits op k x y with
  | none => exact cn_of_nan (nn_qn k)
  | some r => exact cn_of_num (floatBits_num h)

end Go.Proofs.YtbgldggaiefhoaaDoor

/- A slice of 32-bit numbers that a call makes itself, and appends to. -/
namespace Go.Proofs.YtbgldggaiefhoaaDoor
open Go.RowKit
set_option linter.unusedVariables false

theorem info32 : ∃ i, Tryd.prog.info? 54 = some i ∧ i.zero = some (.float .f32 0) ∧ i.size = 1 ∧ i.bytes = 4 := by
  have h := Tryd.rowOf32
  cases e : Tryd.prog.info? 54 with
  | none => rw [e] at h; simp at h
  | some i =>
    rw [e] at h
    simp only [Option.map_some, Option.some.injEq, Prod.mk.injEq] at h
    exact ⟨i, rfl, h.1, h.2.1, h.2.2⟩

/-- a slice of the call's own reads as zs -/
def Own (w : World) (base : Nat) (v : Value) (zs : List Nat) : Prop := w.ownsRow base 54 1 v zs.length (fl zs)
theorem Own.drewN {w : World} {base : Nat} {v : Value} {zs : List Nat} (h : Own w base v zs) (n : Nat) : Own (w.drewN n) base v zs := h
theorem Own.al {w : World} {base : Nat} {v : Value} {zs : List Nat} (h : Own w base v zs) (o : Obj) : Own (w.alloc o) base v zs := World.ownsRow.alloc h o
theorem Own.kept {w w' : World} {base : Nat} {v : Value} {zs : List Nat} (h : Own w base v zs) (hb : Below w.heap.size w w') : Own w' base v zs := by
  obtain ⟨h1, h2⟩ := h
  refine ⟨h1, ?_⟩
  rcases h2 with h2 | ⟨g, cap, cur, e, hg, hc, h3⟩
  · exact .inl h2
  · refine .inr ⟨g, cap, cur, e, hg, ?_, h3⟩
    have hlt : g < w.heap.size := by
      by_cases hx : g < w.heap.size
      · exact hx
      · rw [Array.getElem?_eq_none (by simpa using hx)] at hc
        cases hc
    rw [hb.block g hlt]
    exact hc
theorem Own.row {w : World} {base : Nat} {v : Value} {zs : List Nat} (h : Own w base v zs) (hm : zs.length ≤ 1048576) : FRow w v zs := by
  have h0 := h
  obtain ⟨h1, h2⟩ := h
  have hx : maxLen = 9223372036854775807 := rfl
  rcases h2 with ⟨rfl, hn⟩ | ⟨g, cap, cur, e, hg, hc, h3⟩
  · have : zs = [] := List.length_eq_zero_iff.1 hn
    subst this
    exact .inl ⟨⟨_, _, rfl⟩, rfl⟩
  · refine .inr ⟨g, 0, cap, e, by omega, fun i hi => ?_⟩
    subst e
    rw [Nat.zero_add, World.ownsRow.cellAt h0 i (by omega)]
    simp [fl, hi, List.getD_eq_getElem?_getD]
theorem Own.empty (w : World) (base : Nat) (hb : base ≤ w.heap.size) : Own (w.alloc (.cells #[] 54)) base (.slice (some ⟨w.heap.size, 0, none⟩) 0 0) [] :=
  World.ownsRow_lit (w := w) (base := base) (e := 54) (size := 1) #[] 0 hb (by decide) rfl

theorem wpList_app32 {ops : Array Oper} {rest : List Oper} {o : Oper} {a : Act} {Q : Exit → Act → World → Prop} {w : World} (hgd : o.guard = none) (s x : Operand)
    (ho : o.op = .call { callee := .builtin .append, args := #[s, x], argTypes := #[30, 30] })
    (base : Nat) (v : Value) (zs : List Nat) (hs : a.eval s = v) (hown : Own w base v zs) (q z c : Nat) (hx : a.eval x = .slice (some ⟨q, 0, none⟩) 1 c) (hq : w.cell? ⟨q, 0, none⟩ = some (.float .f32 z))
    (hk : zs.length ≤ 1048576) (hbase : base ≤ w.heap.size)
    (h : ∀ v' w', Own w' base v' (zs ++ [z]) → Below base w w' → wpList Tryd.prog ops Q rest (a.put o.dst v') w') : wpList Tryd.prog ops Q (o :: rest) a w := by
  obtain ⟨i, hi, hz, hsz, hby⟩ := info32
  have hm : maxLen = 9223372036854775807 := rfl
  refine wpList_append_own w hgd s x _ ho base 54 i (.float .f32 0) 1 4 Tryd.underlying30 hi hz hsz hby rfl (by decide) v zs.length (fl zs) hs hown ⟨q, 0, none⟩ 1 c [.float .f32 z] hx rfl (fun j u hj => ?_) (fun u hu => ?_) (by omega) (by omega) hbase (fun v' w' h1 h2 _ => ?_)
  · cases j with
    | zero => simp at hj; subst hj; simpa [Addr.add] using hq
    | succ j => simp at hj
  · simp at hu; subst hu; rfl
  · refine h v' w' ?_ ((Below.refl base w).grown h2 hbase (fun k hk => (World.ownsRow.lt hown k hk).1))
    unfold Own
    simpa [fl] using h1
end Go.Proofs.YtbgldggaiefhoaaDoor

/- A slice of 32-bit numbers that a call makes itself, and appends to; and rods by their cells. -/


/- A rod of n cells without numbers: four lists in one block. -/
namespace Go.Proofs.YtbgldggaiefhoaaDoor
open Go.RowKit
set_option linter.unusedVariables false

/-- a rod of zeros in one block of its own -/
def ZeroRod (n : Nat) (w : World) (e : Ending) (w' : World) : Prop := ∃ g, e = .returned (inBlk g n) ∧ w.heap.size ≤ g ∧ w'.rowIs g 54 (4 * n) (fun _ => .float .f32 0) ∧ Below w.heap.size w w'

end Go.Proofs.YtbgldggaiefhoaaDoor

/- The laws' marks on rods. -/
namespace Go.Proofs.YtbgldggaiefhoaaDoor
open Go.RowKit
set_option linter.unusedVariables false

/-- the rod without cells -/
def nilRod : Value := .agg #[.slice none 0 0, .slice none 0 0, .slice none 0 0, .slice none 0 0]
end Go.Proofs.YtbgldggaiefhoaaDoor

/- Four lists that a call makes side by side, appending to each in turn. -/
namespace Go.Proofs.YtbgldggaiefhoaaDoor
open Go.RowKit
set_option linter.unusedVariables false

theorem Own.tur {S : Nat → Prop} {w w' : World} {base : Nat} {v : Value} {zs : List Nat} (h : Own w base v zs) (ht : Tur S w w') (hs : ∀ a, v.ownBlock = some a → ¬ S a) : Own w' base v zs := by
  obtain ⟨h1, h2⟩ := h
  refine ⟨h1, ?_⟩
  rcases h2 with h2 | ⟨g, cap, cur, e, hg, hc, h3⟩
  · exact .inl h2
  · refine .inr ⟨g, cap, cur, e, hg, ?_, h3⟩
    have hlt : g < w.heap.size := by
      by_cases hx : g < w.heap.size
      · exact hx
      · rw [Array.getElem?_eq_none (by simpa using hx)] at hc
        cases hc
    rw [ht.block g hlt (hs g (by rw [e]; rfl))]
    exact hc
theorem Own.lt {w : World} {base : Nat} {v : Value} {zs : List Nat} (h : Own w base v zs) {a : Nat} (ha : v.ownBlock = some a) : base ≤ a ∧ a < w.heap.size := World.ownsRow.lt h a ha

/-- an append, and where the new slice lies -/
theorem wpList_app32L {ops : Array Oper} {rest : List Oper} {o : Oper} {a : Act} {Q : Exit → Act → World → Prop} {w : World} (hgd : o.guard = none) (s x : Operand)
    (ho : o.op = .call { callee := .builtin .append, args := #[s, x], argTypes := #[30, 30] })
    (base : Nat) (v : Value) (zs : List Nat) (hs : a.eval s = v) (hown : Own w base v zs) (q z c : Nat) (hx : a.eval x = .slice (some ⟨q, 0, none⟩) 1 c) (hq : w.cell? ⟨q, 0, none⟩ = some (.float .f32 z))
    (hk : zs.length ≤ 1048576) (hbase : base ≤ w.heap.size)
    (h : ∀ g cap w', Own w' base (.slice (some ⟨g, 0, none⟩) (zs.length + 1) cap) (zs ++ [z]) → Tur (fun b => v.ownBlock = some b) w w' → (v.ownBlock = some g ∨ g = w.heap.size) → g < w'.heap.size → wpList Tryd.prog ops Q rest (a.put o.dst (.slice (some ⟨g, 0, none⟩) (zs.length + 1) cap)) w') : wpList Tryd.prog ops Q (o :: rest) a w := by
  obtain ⟨i, hi, hz, hsz, hby⟩ := info32
  have hm : maxLen = 9223372036854775807 := rfl
  refine wpList_append_lies w hgd s x _ ho base 54 i (.float .f32 0) 1 4 Tryd.underlying30 hi hz hsz hby rfl (by decide) v zs.length (fl zs) hs hown ⟨q, 0, none⟩ 1 c [.float .f32 z] hx rfl (fun j u hj => ?_) (fun u hu => ?_) (by decide) (by omega) (by omega) hbase _ rfl (fun g cap w' h1 h2 h3 h4 => ?_)
  · cases j with
    | zero => simp at hj; subst hj; simpa [Addr.add] using hq
    | succ j => simp at hj
  · simp at hu; subst hu; rfl
  · refine h g cap w' ?_ ?_ h3 h4
    · unfold Own
      simpa [fl] using h1
    · have hb := (Below.refl 0 w).grown h2 (Nat.zero_le _) (fun _ _ => Nat.zero_le _)
      exact ⟨hb.os, hb.tape, hb.output, hb.size, fun k hk hs => h2.block k hk (fun e => hs e.symm)⟩

/-- four lists that a call makes, in blocks apart -/
structure Quad (w : World) (base : Nat) (v0 : Value) (L0 : List Nat) (v1 : Value) (L1 : List Nat) (v2 : Value) (L2 : List Nat) (v3 : Value) (L3 : List Nat) : Prop where
  o0 : Own w base v0 L0
  o1 : Own w base v1 L1
  o2 : Own w base v2 L2
  o3 : Own w base v3 L3
  d01 : ∀ a, v0.ownBlock = some a → ¬ v1.ownBlock = some a
  d02 : ∀ a, v0.ownBlock = some a → ¬ v2.ownBlock = some a
  d03 : ∀ a, v0.ownBlock = some a → ¬ v3.ownBlock = some a
  d12 : ∀ a, v1.ownBlock = some a → ¬ v2.ownBlock = some a
  d13 : ∀ a, v1.ownBlock = some a → ¬ v3.ownBlock = some a
  d23 : ∀ a, v2.ownBlock = some a → ¬ v3.ownBlock = some a
theorem Quad.rot {w : World} {base : Nat} {v0 : Value} {L0 : List Nat} {v1 : Value} {L1 : List Nat} {v2 : Value} {L2 : List Nat} {v3 : Value} {L3 : List Nat} (h : Quad w base v0 L0 v1 L1 v2 L2 v3 L3) : Quad w base v1 L1 v2 L2 v3 L3 v0 L0 :=
  ⟨h.o1, h.o2, h.o3, h.o0, h.d12, h.d13, fun a h1 h0 => h.d01 a h0 h1, h.d23, fun a h2 h0 => h.d02 a h0 h2, fun a h3 h0 => h.d03 a h0 h3⟩
theorem Quad.tur {S : Nat → Prop} {w w' : World} {base : Nat} {v0 : Value} {L0 : List Nat} {v1 : Value} {L1 : List Nat} {v2 : Value} {L2 : List Nat} {v3 : Value} {L3 : List Nat} (h : Quad w base v0 L0 v1 L1 v2 L2 v3 L3) (ht : Tur S w w') (hs : ∀ a, base ≤ a → ¬ S a) : Quad w' base v0 L0 v1 L1 v2 L2 v3 L3 :=
  ⟨h.o0.tur ht (fun a ha => hs a (h.o0.lt ha).1), h.o1.tur ht (fun a ha => hs a (h.o1.lt ha).1), h.o2.tur ht (fun a ha => hs a (h.o2.lt ha).1), h.o3.tur ht (fun a ha => hs a (h.o3.lt ha).1), h.d01, h.d02, h.d03, h.d12, h.d13, h.d23⟩
theorem Quad.al {w : World} {base : Nat} {v0 : Value} {L0 : List Nat} {v1 : Value} {L1 : List Nat} {v2 : Value} {L2 : List Nat} {v3 : Value} {L3 : List Nat} (h : Quad w base v0 L0 v1 L1 v2 L2 v3 L3) (o : Obj) : Quad (w.alloc o) base v0 L0 v1 L1 v2 L2 v3 L3 :=
  h.tur (S := fun _ => False) (Tur.of_below (below_al1 w o)) (fun _ _ h => h)
theorem Tur.setCell (w : World) (p i : Nat) (u : Value) : Tur (· = p) w (w.setCell ⟨p, i, none⟩ u) := Tur.of_onl ((Onl.refl p w).setCell i u) rfl
theorem Quad.far {w : World} {base p : Nat} {v0 : Value} {L0 : List Nat} {v1 : Value} {L1 : List Nat} {v2 : Value} {L2 : List Nat} {v3 : Value} {L3 : List Nat} (h : Quad w base v0 L0 v1 L1 v2 L2 v3 L3) (hp : p < base) (i : Nat) (u : Value) : Quad (w.setCell ⟨p, i, none⟩ u) base v0 L0 v1 L1 v2 L2 v3 L3 :=
  h.tur (Tur.setCell w p i u) (fun a ha e => by omega)
/-- the first list grows -/
theorem Quad.step {w w' : World} {base g cap : Nat} {v0 : Value} {L0 L : List Nat} {v1 : Value} {L1 : List Nat} {v2 : Value} {L2 : List Nat} {v3 : Value} {L3 : List Nat} (h : Quad w base v0 L0 v1 L1 v2 L2 v3 L3)
    {n : Nat} (h0 : Own w' base (.slice (some ⟨g, 0, none⟩) n cap) L) (ht : Tur (fun b => v0.ownBlock = some b) w w') (hg : v0.ownBlock = some g ∨ g = w.heap.size) : Quad w' base (.slice (some ⟨g, 0, none⟩) n cap) L v1 L1 v2 L2 v3 L3 := by
  have key : ∀ v : Value, ∀ Lv, Own w base v Lv → (∀ a, v0.ownBlock = some a → ¬ v.ownBlock = some a) → ∀ a, (Value.slice (some ⟨g, 0, none⟩) n cap).ownBlock = some a → ¬ v.ownBlock = some a := by
    intro v Lv ho hd a ha hv
    have e : g = a := by simpa [Value.ownBlock] using ha
    subst e
    rcases hg with hg | hg
    · exact hd g hg hv
    · have := (ho.lt hv).2
      omega
  exact ⟨h0, h.o1.tur ht (fun a h1 h0 => h.d01 a h0 h1), h.o2.tur ht (fun a h1 h0 => h.d02 a h0 h1), h.o3.tur ht (fun a h1 h0 => h.d03 a h0 h1), key v1 L1 h.o1 h.d01, key v2 L2 h.o2 h.d02, key v3 L3 h.o3 h.d03, h.d12, h.d13, h.d23⟩
end Go.Proofs.YtbgldggaiefhoaaDoor

/- A copy of a list, as the specification makes it. -/
namespace Go.Proofs.YtbgldggaiefhoaaDoor
open Go.RowKit
set_option linter.unusedVariables false

/-- a whole list appended -/
theorem wpList_cat32 {ops : Array Oper} {rest : List Oper} {o : Oper} {a : Act} {Q : Exit → Act → World → Prop} {w : World} (hgd : o.guard = none) (s x : Operand)
    (ho : o.op = .call { callee := .builtin .append, args := #[s, x], argTypes := #[30, 30] })
    (base : Nat) (v : Value) (zs ys : List Nat) (hs : a.eval s = v) (hown : Own w base v zs) (q off c : Nat) (hx : a.eval x = .slice (some ⟨q, off, none⟩) ys.length c) (hq : ∀ i, i < ys.length → w.cell? ⟨q, off + i, none⟩ = some (.float .f32 (ys.getD i 0)))
    (hk : zs.length ≤ 1048576) (hk2 : ys.length ≤ 1048576) (hbase : base ≤ w.heap.size)
    (h : ∀ v' w', Own w' base v' (zs ++ ys) → Below base w w' → wpList Tryd.prog ops Q rest (a.put o.dst v') w') : wpList Tryd.prog ops Q (o :: rest) a w := by
  obtain ⟨i, hi, hz, hsz, hby⟩ := info32
  have hm : maxLen = 9223372036854775807 := rfl
  refine wpList_append_own w hgd s x _ ho base 54 i (.float .f32 0) 1 4 Tryd.underlying30 hi hz hsz hby rfl (by decide) v zs.length (fl zs) hs hown ⟨q, off, none⟩ ys.length c (fl ys) hx (by simp [fl]) (fun j u hj => ?_) (fun u hu => ?_) (by omega) (by omega) hbase (fun v' w' h1 h2 _ => ?_)
  · have hjl : j < ys.length := by
      by_cases hl : j < ys.length
      · exact hl
      · rw [List.getElem?_eq_none (by simpa [fl] using hl)] at hj
        cases hj
    have e : u = .float .f32 (ys.getD j 0) := by
      simp [fl, hjl] at hj
      simp [← hj, List.getD_eq_getElem?_getD, hjl]
    rw [e]
    have h2 := hq j hjl
    by_cases hj0 : j = 0
    · subst hj0
      first | (simp [Addr.add]; done) | simpa [Addr.add] using h2
    · first | (simp [Addr.add, hj0]; done) | simpa [Addr.add, hj0] using h2
  · simp [fl] at hu
    obtain ⟨z, _, rfl⟩ := hu
    rfl
  · refine h v' w' ?_ ((Below.refl base w).grown h2 hbase (fun k hk => (World.ownsRow.lt hown k hk).1))
    unfold Own
    simpa [fl] using h1

end Go.Proofs.YtbgldggaiefhoaaDoor
