/- Numbers at least 0, at most 1, shares: words alone. -/
import Derived.Test.YtabdinmodopadaaPosW
import Derived.Test.YtabdinmodopadaaFu
namespace Go.Proofs.Ytabdinmodopadaa
open Go.RowKit
set_option linter.unusedVariables false

theorem fopl' (op : BinOp) (k : FloatKind) (x y : Nat) : fop op k (cn k x) y = fop op k x y := by
  unfold fop
  rw [← floatBits_cn op k (cn k x) y, cn_cn, floatBits_cn]
theorem fopr' (op : BinOp) (k : FloatKind) (x y : Nat) : fop op k x (cn k y) = fop op k x y := by
  unfold fop
  rw [← floatBits_cn op k x (cn k y), cn_cn, floatBits_cn]
theorem fop_cc (op : BinOp) (k : FloatKind) (x y : Nat) : cn k (fop op k x y) = fop op k x y := by
  unfold fop
  cases h : floatBits op k x y with
  | none => exact cn_of_nan (nn_qn k)
  | some r => exact cn_of_num (floatBits_num h)
/-- a goal at which the walk stands -/
structure Stop (p : Prop) : Prop where
  out : p
theorem Stop.go {p : Prop} (h : Stop p) : p := h.out
/-- at least 0 -/
def ge0 (x : Nat) : Bool := FloatKind.f32.format.order x 0 == some .gt || FloatKind.f32.format.order x 0 == some .eq
/-- from a to b -/
def geN (x a : Nat) : Bool := FloatKind.f32.format.order x a == some .gt || FloatKind.f32.format.order x a == some .eq
def leN (x b : Nat) : Bool := FloatKind.f32.format.order x b == some .lt || FloatKind.f32.format.order x b == some .eq
def wth (x a b : Nat) : Bool := geN x a && leN x b
/-- a share -/
def shr (x : Nat) : Bool := geN x 0 && leN x 1065353216
/-- a shine -/
def shn (x : Nat) : Bool := gt0 x && leN x 1065353216
/-- finite and at least 0 -/
def lst (x : Nat) : Bool := fin .f32 x && geN x 0
theorem gt0_ge {x : Nat} (h : gt0 x = true) : geN x 0 = true := by unfold geN; unfold gt0 at h; rw [h]; rfl
theorem shn_shr (x : Nat) : (shr x && gt0 x) = shn x := by
  unfold shr shn
  cases h : gt0 x
  · simp
  · rw [gt0_ge h]; simp
/-- a bool; the world is the same -/
def BolS (b : Bool) (w : World) (e : Ending) (w' : World) : Prop := e = .returned (.bool b) ∧ w = w'
end Go.Proofs.Ytabdinmodopadaa
