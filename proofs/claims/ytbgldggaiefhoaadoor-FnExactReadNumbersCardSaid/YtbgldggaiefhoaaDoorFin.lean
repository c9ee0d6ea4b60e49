/- Whether a number is finite: the code's own functions. -/
import Derived.Test.YtbgldggaiefhoaaDoorSame
namespace Go.Proofs.YtbgldggaiefhoaaDoor
open Go.RowKit

theorem abs_any (r : Nat) (w : World) (hr : (Lit.float .f64 r).wf = true) : Calls Tryd.prog 172 #[.float .f64 r] w fun e w' => e = .returned (.float .f64 (r % 9223372036854775808)) ∧ w = w' := by
  have e := abs_bits r (wf64 hr)
  go_enter Tryd.func172, Tryd.ntmps172
  go_wp2
  go_ret
  exact ⟨by simp, rfl⟩

theorem isFiniteLong_any (r : Nat) (w : World) (hr : (Lit.float .f64 r).wf = true) :
    Calls Tryd.prog 126 #[.float .f64 r] w fun e w' => e = .returned (.bool (fin .f64 r)) ∧ w = w' := by
  have ho := order_self (k := .f64) (x := r)
  cases hn : nn .f64 r
  · rw [hn] at ho; simp only [Bool.false_eq_true, if_false] at ho
    have hg := abs_gt r hn
    go_enter Tryd.func126, Tryd.ntmps126
    go_wp2_with (first | (go_at_call 172; refine (abs_any _ _ hr).mono ?_; rintro e w' ⟨rfl, rfl⟩) | go_in)
    go_ret
    exact ⟨by simp, rfl⟩
  · rw [hn] at ho; simp only [if_true] at ho
    have hf := fin_nan hn
    go_enter Tryd.func126, Tryd.ntmps126
    go_wp2_with go_in
    go_ret
    exact ⟨by simp [hf], rfl⟩

theorem isFiniteLong_up {a r : Nat} (w : World) (h : UR a r) :
    Calls Tryd.prog 126 #[.float .f64 r] w fun e w' => e = .returned (.bool (fin .f32 a)) ∧ w = w' :=
  (isFiniteLong_any r w h.2).mono fun _ _ ⟨he, hw⟩ => ⟨by rw [he, fin_up h], hw⟩

theorem implFinite_any (a : Nat) (w : World) : Calls Tryd.prog 87 #[.float .f32 a] w (Bol (fin .f32 a) w) := by
  go_enter Tryd.func87, Tryd.ntmps87
  go_wp2_with (first | (refine wpList_up rfl Tryd.underlying54 Tryd.underlying83 _ rfl _ rfl ?_; intro _ _ _) | (go_at_call 126; refine (isFiniteLong_up _ (by assumption)).mono ?_; rintro e w' ⟨rfl, rfl⟩))
  go_ret
  exact ⟨rfl, _, rfl⟩

theorem specFinite_any (a : Nat) (w : World) : Calls Tryd.prog 80 #[.float .f32 a] w (Bol (fin .f32 a) w) := by
  go_enter Tryd.func80, Tryd.ntmps80
  go_wp2_with (refine wpList_farith rfl _ _ _ _ _ rfl rfl _ _ _ rfl rfl ?_; intro _ _ _)
  go_ret
  rename_i h
  exact ⟨congrArg (fun b => Ending.returned (.bool b)) (sub_zero h), _, rfl⟩
end Go.Proofs.YtbgldggaiefhoaaDoor
