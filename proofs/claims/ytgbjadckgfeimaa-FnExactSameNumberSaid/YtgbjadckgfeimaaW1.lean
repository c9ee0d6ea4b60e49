/- Walks of the laws on single numbers. -/
import Derived.Test.YtgbjadckgfeimaaSame
namespace Go.Proofs.Ytgbjadckgfeimaa
open Go.RowKit

theorem fnExactBitsOf_walk (a : Nat) (w : World) (_wa : (Lit.float .f32 a).wf = true) :
    Calls Try.prog 5 #[.float .f32 a] w (Tru w) := by
  have ho := order_self (k := .f32) (x := a)
  cases hn : nn .f32 a
  all_goals
    rw [hn] at ho; simp only [Bool.false_eq_true, if_false, if_true] at ho
    go_enter Try.func5, Try.ntmps5
    go_wp2
    go_ret
    exact Tru.same

/-- the bits of a number, as the document tells them -/
def bits32 (a : Nat) : Int := if nn .f32 a then 2143289344 else a

theorem specBits_any (a : Nat) (w : World) (wa : (Lit.float .f32 a).wf = true) :
    Calls Try.prog 28 #[.float .f32 a] w fun e w' => e = .returned (.int .i64 (bits32 a)) ∧ w = w' := by
  have ho := order_self (k := .f32) (x := a)
  have hl := wf32 wa
  cases hn : nn .f32 a
  · rw [hn] at ho; simp only [Bool.false_eq_true, if_false] at ho
    go_enter Try.func28, Try.ntmps28
    go_wp2
    go_ret
    exact ⟨by simp [bits32, hn], rfl⟩
  · rw [hn] at ho; simp only [if_true] at ho
    go_enter Try.func28, Try.ntmps28
    go_wp2
    go_ret
    exact ⟨by simp [bits32, hn], rfl⟩
theorem implBits_any (a : Nat) (w : World) (wa : (Lit.float .f32 a).wf = true) :
    Calls Try.prog 15 #[.float .f32 a] w fun e w' => e = .returned (.int .i64 (bits32 a)) ∧ w = w' := by
  have ho := order_self (k := .f32) (x := a)
  have hl := wf32 wa
  cases hn : nn .f32 a
  · rw [hn] at ho; simp only [Bool.false_eq_true, if_false] at ho
    go_enter Try.func15, Try.ntmps15
    go_wp2
    go_ret
    exact ⟨by simp [bits32, hn], rfl⟩
  · rw [hn] at ho; simp only [if_true] at ho
    go_enter Try.func15, Try.ntmps15
    go_wp2
    go_ret
    exact ⟨by simp [bits32, hn], rfl⟩

theorem fnExactSameNumber_walk (a b : Nat) (w : World) (wa : (Lit.float .f32 a).wf = true) (wb : (Lit.float .f32 b).wf = true) :
    Calls Try.prog 3 #[.float .f32 a, .float .f32 b] w (Tru w) := by
  go_enter Try.func3, Try.ntmps3
  go_wp2_with (first | (go_at_call 28; refine (specBits_any _ _ (by assumption)).mono ?_; rintro e w' ⟨rfl, rfl⟩) | (go_at_call 15; refine (implBits_any _ _ (by assumption)).mono ?_; rintro e w' ⟨rfl, rfl⟩) | go_in)
  go_ret
  exact Tru.same

theorem abs_any (r : Nat) (w : World) (hr : (Lit.float .f64 r).wf = true) : Calls Try.prog 40 #[.float .f64 r] w fun e w' => e = .returned (.float .f64 (r % 9223372036854775808)) ∧ w = w' := by
  have e := abs_bits r (wf64 hr)
  go_enter Try.func40, Try.ntmps40
  go_wp2
  go_ret
  exact ⟨by simp, rfl⟩

theorem isFiniteLong_any (r : Nat) (w : World) (hr : (Lit.float .f64 r).wf = true) :
    Calls Try.prog 27 #[.float .f64 r] w fun e w' => e = .returned (.bool (fin .f64 r)) ∧ w = w' := by
  have ho := order_self (k := .f64) (x := r)
  cases hn : nn .f64 r
  · rw [hn] at ho; simp only [Bool.false_eq_true, if_false] at ho
    have hg := abs_gt r hn
    go_enter Try.func27, Try.ntmps27
    go_wp2_with (first | (go_at_call 40; refine (abs_any _ _ hr).mono ?_; rintro e w' ⟨rfl, rfl⟩) | go_in)
    go_ret
    exact ⟨by simp, rfl⟩
  · rw [hn] at ho; simp only [if_true] at ho
    have hf := fin_nan hn
    go_enter Try.func27, Try.ntmps27
    go_wp2_with go_in
    go_ret
    exact ⟨by simp [hf], rfl⟩

theorem isFiniteLong_up {a r : Nat} (w : World) (h : UR a r) :
    Calls Try.prog 27 #[.float .f64 r] w fun e w' => e = .returned (.bool (fin .f32 a)) ∧ w = w' :=
  (isFiniteLong_any r w h.2).mono fun _ _ ⟨he, hw⟩ => ⟨by rw [he, fin_up h], hw⟩

/-- a bool, and the world is as it was but for questions -/
def Bol (b : Bool) (w : World) (e : Ending) (w' : World) : Prop := e = .returned (.bool b) ∧ ∃ n, w' = w.drewN n

theorem specFinite_any (a : Nat) (w : World) : Calls Try.prog 26 #[.float .f32 a] w (Bol (fin .f32 a) w) := by
  go_enter Try.func26, Try.ntmps26
  go_wp2_with (refine wpList_farith rfl _ _ _ _ _ rfl rfl _ _ _ rfl rfl ?_; intro _ _ _)
  go_ret
  rename_i h
  exact ⟨congrArg (fun b => Ending.returned (.bool b)) (sub_zero h), _, rfl⟩

theorem implFinite_any (a : Nat) (w : World) : Calls Try.prog 13 #[.float .f32 a] w (Bol (fin .f32 a) w) := by
  go_enter Try.func13, Try.ntmps13
  go_wp2_with (first | (refine wpList_up rfl Try.underlying22 Try.underlying29 _ rfl _ rfl ?_; intro _ _ _) | (go_at_call 27; refine (isFiniteLong_up _ (by assumption)).mono ?_; rintro e w' ⟨rfl, rfl⟩))
  go_ret
  exact ⟨rfl, _, rfl⟩

theorem fnExactIsFinite_walk (a : Nat) (w : World) (_wa : (Lit.float .f32 a).wf = true) :
    Calls Try.prog 4 #[.float .f32 a] w (Tru w) := by
  go_enter Try.func4, Try.ntmps4
  go_wp2_with (first | (go_at_call 26; refine (specFinite_any _ _).mono ?_; rintro e w' ⟨rfl, n, rfl⟩) | (go_at_call 13; refine (implFinite_any _ _).mono ?_; rintro e w' ⟨rfl, n, rfl⟩) | go_in)
  go_ret
  exact Tru.drewN

/-- a 32-bit number, and the world is as it was but for questions -/
def Flo (P : Nat → Prop) (w : World) (e : Ending) (w' : World) : Prop := ∃ r n, P r ∧ (Lit.float .f32 r).wf = true ∧ e = .returned (.float .f32 r) ∧ w' = w.drewN n
def Flo2 (r : Nat) (b : Bool) (w : World) (e : Ending) (w' : World) : Prop := e = .returned (.tuple #[.float .f32 r, .bool b]) ∧ w = w'

/-- the end of an exact law on one 32-bit number -/
theorem same_end {a b r s : Nat} (w : World) (h : UR a r) (h' : UR b s) (e : cn .f32 a = cn .f32 b) : Calls Try.prog 18 #[.float .f64 r, .float .f64 s] w (Yes w) :=
  sameFloat_any r s w (UR_same h h' e)
end Go.Proofs.Ytgbjadckgfeimaa
