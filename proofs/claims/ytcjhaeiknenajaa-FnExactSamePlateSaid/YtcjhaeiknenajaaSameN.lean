/- Whether two numbers are the same, by their bits: both sides. (Never with SameEnd in one seat: it holds the same.) -/
import Derived.Test.YtcjhaeiknenajaaPos
namespace Go.Proofs.Ytcjhaeiknenajaa
open Go.RowKit

/-- the bits of a number, as the document tells them -/
def bits32 (a : Nat) : Int := if nn .f32 a then 2143289344 else a

theorem specBits_any (a : Nat) (w : World) (wa : (Lit.float .f32 a).wf = true) :
    Calls Try.prog 114 #[.float .f32 a] w fun e w' => e = .returned (.int .i64 (bits32 a)) ∧ w = w' := by
  have ho := order_self (k := .f32) (x := a)
  have hl := wf32 wa
  cases hn : nn .f32 a
  · rw [hn] at ho; simp only [Bool.false_eq_true, if_false] at ho
    go_enter Try.func114, Try.ntmps114
    go_wp2
    go_ret
    exact ⟨by simp [bits32, hn], rfl⟩
  · rw [hn] at ho; simp only [if_true] at ho
    go_enter Try.func114, Try.ntmps114
    go_wp2
    go_ret
    exact ⟨by simp [bits32, hn], rfl⟩
theorem implBits_any (a : Nat) (w : World) (wa : (Lit.float .f32 a).wf = true) :
    Calls Try.prog 102 #[.float .f32 a] w fun e w' => e = .returned (.int .i64 (bits32 a)) ∧ w = w' := by
  have ho := order_self (k := .f32) (x := a)
  have hl := wf32 wa
  cases hn : nn .f32 a
  · rw [hn] at ho; simp only [Bool.false_eq_true, if_false] at ho
    go_enter Try.func102, Try.ntmps102
    go_wp2
    go_ret
    exact ⟨by simp [bits32, hn], rfl⟩
  · rw [hn] at ho; simp only [if_true] at ho
    go_enter Try.func102, Try.ntmps102
    go_wp2
    go_ret
    exact ⟨by simp [bits32, hn], rfl⟩


def sm (a b : Nat) : Bool := bits32 a == bits32 b
theorem specSame_any (a b : Nat) (w : World) (wa : (Lit.float .f32 a).wf = true) (wb : (Lit.float .f32 b).wf = true) :
    Calls Try.prog 111 #[.float .f32 a, .float .f32 b] w fun e w' => e = .returned (.bool (sm a b)) ∧ w = w' := by
  go_enter Try.func111, Try.ntmps111
  go_wp2_with (go_at_call 114; refine (specBits_any _ _ (by assumption)).mono ?_; rintro e w' ⟨rfl, rfl⟩)
  go_ret
  exact ⟨rfl, rfl⟩
theorem implSame_any (a b : Nat) (w : World) (wa : (Lit.float .f32 a).wf = true) (wb : (Lit.float .f32 b).wf = true) :
    Calls Try.prog 63 #[.float .f32 a, .float .f32 b] w fun e w' => e = .returned (.bool (sm a b)) ∧ w = w' := by
  go_enter Try.func63, Try.ntmps63
  go_wp2_with (go_at_call 102; refine (implBits_any _ _ (by assumption)).mono ?_; rintro e w' ⟨rfl, rfl⟩)
  go_ret
  exact ⟨rfl, rfl⟩

theorem bitsC (a : Nat) (wa : (Lit.float .f32 a).wf = true) (w : World) : Calls Try.prog 102 #[.float .f32 a] w fun e w' => e = .returned (.int .i64 (bits32 a)) ∧ w' = w :=
  (implBits_any a w wa).mono fun _ _ ⟨h1, h2⟩ => ⟨h1, h2.symm⟩
end Go.Proofs.Ytcjhaeiknenajaa
