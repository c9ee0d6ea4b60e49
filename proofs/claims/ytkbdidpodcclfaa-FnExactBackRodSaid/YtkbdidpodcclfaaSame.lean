/- The laws' own comparison of two 64-bit numbers: it answers true where both are the same up to the bits of a not-a-number. -/
import Derived.Test.YtkbdidpodcclfaaExt
namespace Go.Proofs.Ytkbdidpodcclfaa
open Go.RowKit

/-- true, and the world is as it was but for questions -/
def Yes (w : World) (e : Ending) (w' : World) : Prop := e = .returned (.bool true) ∧ ∃ n, w' = w.drewN n
theorem Yes.same {w : World} : Yes w (.returned (.bool true)) w := ⟨rfl, 0, rfl⟩
theorem Yes.drewN {w : World} {n : Nat} : Yes w (.returned (.bool true)) (w.drewN n) := ⟨rfl, n, rfl⟩

theorem FR_order {op op' : BinOp} {k : FloatKind} {m n m' n' r s : Nat} (h : FR op k m n r) (h' : FR op' k m' n' s) (he : fop op k (cn k m) (cn k n) = fop op' k (cn k m') (cn k n')) (z : Nat) :
    k.format.order r z = k.format.order s z := by
  rw [← order_cn k r z, ← order_cn k s z, h.1, h'.1, he]

theorem sameFloat_nan (g x : Nat) (w : World) (hg : FloatKind.f64.format.order g g = none) (hx : FloatKind.f64.format.order x x = none) :
    Calls Try.prog 37 #[.float .f64 g, .float .f64 x] w (Yes w) := by
  go_enter Try.func37, Try.ntmps37
  go_wp2
  go_ret
  exact Yes.same

theorem sameFloat_eq (g : Nat) (w : World) (hg : FloatKind.f64.format.order g g = some .eq) :
    Calls Try.prog 37 #[.float .f64 g, .float .f64 g] w (Yes w) := by
  go_enter Try.func37, Try.ntmps37
  cases h0 : FloatKind.f64.format.order g 0 == some .eq
  · go_wp2
    go_ret
    exact Yes.same
  · go_wp2_with (refine wpList_farith rfl _ _ _ _ _ rfl rfl _ _ _ rfl rfl ?_; intro _ _ _)
    go_ret
    rename_i r1 j1 h1 r2 j2 h2
    refine ⟨?_, _, rfl⟩
    show Ending.returned (.bool ((FloatKind.f64.format.order r1 0 == some Ordering.gt) == (FloatKind.f64.format.order r2 0 == some Ordering.gt))) = _
    rw [FR_order h1 h2 rfl 0]
    simp

/-- numbers that are the same -/
theorem sameFloat_any (g x : Nat) (w : World) (h : cn .f64 g = cn .f64 x) :
    Calls Try.prog 37 #[.float .f64 g, .float .f64 x] w (Yes w) := by
  cases hg : nn .f64 g
  · have hx : nn .f64 x = false := by rw [← nn_cn, ← h, nn_cn]; exact hg
    rw [cn_of_num hg, cn_of_num hx] at h
    subst h
    exact sameFloat_eq g w (by rw [order_self, hg]; rfl)
  · have hx : nn .f64 x = true := by rw [← nn_cn, ← h, nn_cn]; exact hg
    exact sameFloat_nan g x w (by rw [order_self, hg]; rfl) (by rw [order_self, hx]; rfl)

theorem UR_same {m m' r r' : Nat} (h : UR m r) (h' : UR m' r') (e : cn .f32 m = cn .f32 m') : cn .f64 r = cn .f64 r' := by rw [h.1, h'.1, e]
/-- a bool, and the world is as it was but for questions -/
def Bol (b : Bool) (w : World) (e : Ending) (w' : World) : Prop := e = .returned (.bool b) ∧ ∃ n, w' = w.drewN n

/-- a 32-bit number, and the world is as it was but for questions -/
def Flo (P : Nat → Prop) (w : World) (e : Ending) (w' : World) : Prop := ∃ r n, P r ∧ (Lit.float .f32 r).wf = true ∧ e = .returned (.float .f32 r) ∧ w' = w.drewN n
def Flo2 (r : Nat) (b : Bool) (w : World) (e : Ending) (w' : World) : Prop := e = .returned (.tuple #[.float .f32 r, .bool b]) ∧ w = w'

/-- the end of an exact law on one 32-bit number -/
theorem same_end {a b r s : Nat} (w : World) (h : UR a r) (h' : UR b s) (e : cn .f32 a = cn .f32 b) : Calls Try.prog 37 #[.float .f64 r, .float .f64 s] w (Yes w) :=
  sameFloat_any r s w (UR_same h h' e)
end Go.Proofs.Ytkbdidpodcclfaa
