/- Numbers of chapter 5: at least 0, at most 1, shares; what tells them on both sides. -/
import Derived.Test.YtlhjmkdfemejmaaGiv3
import Derived.Test.YtlhjmkdfemejmaaFu
namespace Go.Proofs.Ytlhjmkdfemejmaa
open Go.RowKit
set_option linter.unusedVariables false

theorem fopl' (op : BinOp) (k : FloatKind) (x y : Nat) : fop op k (cn k x) y = fop op k x y := by
  unfold fop
  rw [← floatBits_cn op k (cn k x) y, cn_cn, floatBits_cn]
theorem fopr' (op : BinOp) (k : FloatKind) (x y : Nat) : fop op k x (cn k y) = fop op k x y := by
  unfold fop
  rw [← floatBits_cn op k x (cn k y), cn_cn, floatBits_cn]
theorem fop_cc (op : BinOp) (k : FloatKind) (x y : Nat) : cn k (fop op k x y) = fop op k x y := by
  unfold fop
  cases h : floatBits op k x y with
  | none => exact cn_of_nan (nn_qn k)
  | some r => exact cn_of_num (floatBits_num h)
/-- a goal at which the walk stands -/
structure Stop (p : Prop) : Prop where
  out : p
theorem Stop.go {p : Prop} (h : Stop p) : p := h.out
/-- at least 0 -/
def ge0 (x : Nat) : Bool := FloatKind.f32.format.order x 0 == some .gt || FloatKind.f32.format.order x 0 == some .eq
/-- from a to b -/
def geN (x a : Nat) : Bool := FloatKind.f32.format.order x a == some .gt || FloatKind.f32.format.order x a == some .eq
def leN (x b : Nat) : Bool := FloatKind.f32.format.order x b == some .lt || FloatKind.f32.format.order x b == some .eq
def wth (x a b : Nat) : Bool := geN x a && leN x b
/-- a share -/
def shr (x : Nat) : Bool := geN x 0 && leN x 1065353216
/-- a shine -/
def shn (x : Nat) : Bool := gt0 x && leN x 1065353216
/-- finite and at least 0 -/
def lst (x : Nat) : Bool := fin .f32 x && geN x 0
theorem gt0_ge {x : Nat} (h : gt0 x = true) : geN x 0 = true := by unfold geN; unfold gt0 at h; rw [h]; rfl
theorem shn_shr (x : Nat) : (shr x && gt0 x) = shn x := by
  unfold shr shn
  cases h : gt0 x
  · simp
  · rw [gt0_ge h]; simp
/-- a bool; the world is the same -/
def BolS (b : Bool) (w : World) (e : Ending) (w' : World) : Prop := e = .returned (.bool b) ∧ w = w'

theorem implWithin_any (x a b : Nat) (w : World) : Calls Try.prog 63 #[.float .f32 x, .float .f32 a, .float .f32 b] w (BolS (wth x a b) w) := by
  unfold wth
  cases B0 : geN x a
  · skip
    have o0 : (FloatKind.f32.format.order x a == some .gt || FloatKind.f32.format.order x a == some .eq) = false := B0
    have H0 := Lib.hid B0
    clear B0
    go_enter Try.func63, Try.ntmps63
    go_wp2
    go_ret
    exact ⟨ret_bb (by simp), rfl⟩
  · skip
    have o0 : (FloatKind.f32.format.order x a == some .gt || FloatKind.f32.format.order x a == some .eq) = true := B0
    have H0 := Lib.hid B0
    clear B0
    go_enter Try.func63, Try.ntmps63
    go_wp2
    go_ret
    exact ⟨ret_bb (by rw [Bool.true_and]; rfl), rfl⟩
theorem implShare_any (x : Nat) (w : World) : Calls Try.prog 72 #[.float .f32 x] w (BolS (shr x) w) := by
  go_enter Try.func72, Try.ntmps72
  go_wp2_with fail
  refine (implWithin_any x _ _ _).mono ?_
  rintro e w' ⟨rfl, rfl⟩
  go_wp2
  go_ret
  exact ⟨rfl, rfl⟩
theorem implShine_any (x : Nat) (w : World) : Calls Try.prog 139 #[.float .f32 x] w (BolS (shn x) w) := by
  rw [← shn_shr]
  cases B0 : shr x
  · skip
    have H0 := Lib.hid B0
    clear B0
    go_enter Try.func139, Try.ntmps139
    go_wp2_with fail
    refine (implShare_any x _).mono ?_
    rw [H0.out]
    rintro e w' ⟨rfl, rfl⟩
    go_wp2
    go_ret
    exact ⟨ret_bb (by simp), rfl⟩
  · skip
    have H0 := Lib.hid B0
    clear B0
    go_enter Try.func139, Try.ntmps139
    go_wp2_with fail
    refine (implShare_any x _).mono ?_
    rw [H0.out]
    rintro e w' ⟨rfl, rfl⟩
    go_wp2
    go_ret
    exact ⟨ret_bb (by rw [Bool.true_and]; rfl), rfl⟩
theorem implNotNeg_any (x : Nat) (w : World) : Calls Try.prog 65 #[.float .f32 x] w (Bol (lst x) w) := by
  unfold lst
  cases B0 : fin .f32 x
  · skip
    have H0 := Lib.hid B0
    clear B0
    go_enter Try.func65, Try.ntmps65
    go_wp2_with fail
    refine (implFinite_any x _).mono ?_
    rw [H0.out]
    rintro e w' ⟨rfl, n, rfl⟩
    go_wp2
    go_ret
    exact ⟨ret_bb (by simp), _, rfl⟩
  · skip
    have H0 := Lib.hid B0
    clear B0
    go_enter Try.func65, Try.ntmps65
    go_wp2_with fail
    refine (implFinite_any x _).mono ?_
    rw [H0.out]
    rintro e w' ⟨rfl, n, rfl⟩
    go_wp2
    go_ret
    exact ⟨ret_bb (by rw [Bool.true_and]; rfl), _, rfl⟩
theorem specLeast_any (x : Nat) (w : World) : Calls Try.prog 59 #[.float .f32 x] w (Bol (lst x) w) := by
  unfold lst
  cases B0 : fin .f32 x
  · skip
    have H0 := Lib.hid B0
    clear B0
    go_enter Try.func59, Try.ntmps59
    go_wp2_with fail
    refine (specFinite_any x _).mono ?_
    rw [H0.out]
    rintro e w' ⟨rfl, n, rfl⟩
    go_wp2
    go_ret
    exact ⟨ret_bb (by simp), _, rfl⟩
  · skip
    have H0 := Lib.hid B0
    clear B0
    go_enter Try.func59, Try.ntmps59
    go_wp2_with fail
    refine (specFinite_any x _).mono ?_
    rw [H0.out]
    rintro e w' ⟨rfl, n, rfl⟩
    go_wp2
    go_ret
    exact ⟨ret_bb (by rw [Bool.true_and]; rfl), _, rfl⟩
end Go.Proofs.Ytlhjmkdfemejmaa
