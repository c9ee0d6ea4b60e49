/- Whether two numbers are the same, by their bits: both sides. (Never with SameEnd in one seat: it holds the same.) -/
import Derived.Test.YtlhjmkdfemejmaaPos
namespace Go.Proofs.Ytlhjmkdfemejmaa
open Go.RowKit

/-- the bits of a number, as the document tells them -/
def bits32 (a : Nat) : Int := if nn .f32 a then 2143289344 else a

theorem specBits_any (a : Nat) (w : World) (wa : (Lit.float .f32 a).wf = true) :
    Calls Try.prog 168 #[.float .f32 a] w fun e w' => e = .returned (.int .i64 (bits32 a)) ∧ w = w' := by
  have ho := order_self (k := .f32) (x := a)
  have hl := wf32 wa
  cases hn : nn .f32 a
  · rw [hn] at ho; simp only [Bool.false_eq_true, if_false] at ho
    go_enter Try.func168, Try.ntmps168
    go_wp2
    go_ret
    exact ⟨by simp [bits32, hn], rfl⟩
  · rw [hn] at ho; simp only [if_true] at ho
    go_enter Try.func168, Try.ntmps168
    go_wp2
    go_ret
    exact ⟨by simp [bits32, hn], rfl⟩
theorem implBits_any (a : Nat) (w : World) (wa : (Lit.float .f32 a).wf = true) :
    Calls Try.prog 141 #[.float .f32 a] w fun e w' => e = .returned (.int .i64 (bits32 a)) ∧ w = w' := by
  have ho := order_self (k := .f32) (x := a)
  have hl := wf32 wa
  cases hn : nn .f32 a
  · rw [hn] at ho; simp only [Bool.false_eq_true, if_false] at ho
    go_enter Try.func141, Try.ntmps141
    go_wp2
    go_ret
    exact ⟨by simp [bits32, hn], rfl⟩
  · rw [hn] at ho; simp only [if_true] at ho
    go_enter Try.func141, Try.ntmps141
    go_wp2
    go_ret
    exact ⟨by simp [bits32, hn], rfl⟩


def sm (a b : Nat) : Bool := bits32 a == bits32 b
theorem specSame_any (a b : Nat) (w : World) (wa : (Lit.float .f32 a).wf = true) (wb : (Lit.float .f32 b).wf = true) :
    Calls Try.prog 140 #[.float .f32 a, .float .f32 b] w fun e w' => e = .returned (.bool (sm a b)) ∧ w = w' := by
  go_enter Try.func140, Try.ntmps140
  go_wp2_with (go_at_call 168; refine (specBits_any _ _ (by assumption)).mono ?_; rintro e w' ⟨rfl, rfl⟩)
  go_ret
  exact ⟨rfl, rfl⟩
theorem implSame_any (a b : Nat) (w : World) (wa : (Lit.float .f32 a).wf = true) (wb : (Lit.float .f32 b).wf = true) :
    Calls Try.prog 110 #[.float .f32 a, .float .f32 b] w fun e w' => e = .returned (.bool (sm a b)) ∧ w = w' := by
  go_enter Try.func110, Try.ntmps110
  go_wp2_with (go_at_call 141; refine (implBits_any _ _ (by assumption)).mono ?_; rintro e w' ⟨rfl, rfl⟩)
  go_ret
  exact ⟨rfl, rfl⟩

theorem bitsC (a : Nat) (wa : (Lit.float .f32 a).wf = true) (w : World) : Calls Try.prog 141 #[.float .f32 a] w fun e w' => e = .returned (.int .i64 (bits32 a)) ∧ w' = w :=
  (implBits_any a w wa).mono fun _ _ ⟨h1, h2⟩ => ⟨h1, h2.symm⟩
end Go.Proofs.Ytlhjmkdfemejmaa
