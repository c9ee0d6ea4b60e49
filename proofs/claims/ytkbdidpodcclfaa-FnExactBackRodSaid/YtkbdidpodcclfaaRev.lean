/- slices.Reverse over a part of a block. -/
import Derived.Test.YtkbdidpodcclfaaMarkO
import Derived.BigRegion
namespace Go.Proofs.Ytkbdidpodcclfaa
open Go.RowKit
set_option linter.unusedVariables false

/-- the n numbers from o on in the opposite order -/
def rvF (f : Nat → Nat) (o n i : Nat) : Nat := if o ≤ i ∧ i < o + n then f (o + (o + n - 1 - i)) else f i
def rvK (f : Nat → Nat) (o n k i : Nat) : Nat := if (o ≤ i ∧ i < o + k) ∨ (o + n - k ≤ i ∧ i < o + n) then f (o + (o + n - 1 - i)) else f i
theorem rvK_zero (f : Nat → Nat) (o n i : Nat) : rvK f o n 0 i = f i := by unfold rvK; rw [if_neg (by omega)]
theorem rvK_end (f : Nat → Nat) (o n k m i : Nat) (h : k + m + 1 = n) (h1 : k ≤ m + 1) (h2 : m ≤ k) : rvK f o n k i = rvF f o n i := by
  unfold rvK rvF
  by_cases e : o ≤ i ∧ i < o + n
  · rw [if_pos e]
    by_cases e2 : (o ≤ i ∧ i < o + k) ∨ (o + n - k ≤ i ∧ i < o + n)
    · rw [if_pos e2]
    · rw [if_neg e2]; congr 1; omega
  · rw [if_neg e, if_neg (by omega)]
theorem rv_step {w : World} {g o n N k m : Nat} {f : Nat → Nat} (h : w.rowIs g 22 N (fun i => .float .f32 (rvK f o n k i))) (hk : k + m + 1 = n) (hlt : k < m) :
    ((w.setCell ⟨g, o + k, none⟩ (.float .f32 (f (o + m)))).setCell ⟨g, o + m, none⟩ (.float .f32 (f (o + k)))).rowIs g 22 N (fun i => .float .f32 (rvK f o n (k + 1) i)) := by
  refine World.rowIs.congr ((h.set (o + k) (.float .f32 (f (o + m)))).set (o + m) (.float .f32 (f (o + k)))) (fun i hi => ?_)
  have key : ∀ (c : Prop) [Decidable c] (x y : Nat), (if c then Value.float .f32 x else .float .f32 y) = .float .f32 (if c then x else y) := fun c _ x y => by split <;> rfl
  simp only [key]
  congr 1
  unfold rvK
  repeat' split
  all_goals first | rfl | omega | (congr 1; omega)

theorem Tur.drew1 {S : Nat → Prop} {w w' : World} (t : Tur S w w') : Tur S w w'.drew := ⟨t.os, t.tape, t.output, t.size, t.block⟩
set_option maxHeartbeats 1600000 in
theorem reverse_any (g o n N c : Nat) (f : Nat → Nat) (w : World) (hr : w.rowIs g 22 N (fun i => .float .f32 (f i))) (ho : o + n ≤ N) (hp : 1 ≤ n) (hn : n ≤ 96) :
    Calls Try.prog 50 #[.slice (some ⟨g, o, none⟩) n c] w fun e w' => e = .returned (.tuple #[]) ∧ w'.rowIs g 22 N (fun i => .float .f32 (rvF f o n i)) ∧ Tur (· = g) w w' := by
  have HR := Lib.hid hr
  have HO := Lib.hid ho
  clear hr ho
  go_enter Try.func50, Try.ntmps50
  go_wp2
  go_loopw [2, 3] (fun a b wr => ∃ k m : Nat, k + m + 1 = n ∧ k ≤ m + 1 ∧ a = .int .i64 k ∧ b = .int .i64 m ∧ Hid (wr.rowIs g 22 N (fun i => .float .f32 (rvK f o n k i))) ∧ Hid (Tur (· = g) w wr)) (fun a _ _ => n - (intOf a).toNat)
  case atStart => exact ⟨0, n - 1, by omega, by omega, rfl, by go_num, Lib.hid (HR.out.congr (fun i _ => by rw [rvK_zero])), Lib.hid (Tur.of_below (Below.refl _ _))⟩
  case round =>
    obtain ⟨k, m, hk, hk1, rfl, rfl, hrow, hT⟩ := hrel
    by_cases hlt : k < m
    · have z0 := hrow.out.cell (i := o + k) (by have := HO.out; omega)
      have z1 := hrow.out.cell (i := o + m) (by have := HO.out; omega)
      have zf := hrow.out.frozen
      have e0 : rvK f o n k (o + k) = f (o + k) := by unfold rvK; rw [if_neg (by omega)]
      have e1 : rvK f o n k (o + m) = f (o + m) := by unfold rvK; rw [if_neg (by omega)]
      rw [e0] at z0
      rw [e1] at z1
      have ST := Lib.hid (rv_step hrow.out hk hlt)
      clear e0 e1
      generalize f (o + k) = y0 at *
      generalize f (o + m) = y1 at *
      have hi : (0 : Int) ≤ (k : Int) := by omega
      have hi' : (k : Int) < (n : Int) := by omega
      have hj : (0 : Int) ≤ (m : Int) := by omega
      have hj' : (m : Int) < (n : Int) := by omega
      have hkm : (k : Int) < (m : Int) := by omega
      go_wp2
      go_region
      all_goals
        go_wp2
        go_roundw
        case rel => exact ⟨k + 1, m - 1, by omega, by omega, by go_num, by go_num, Lib.hid ST.out, Lib.hid (Tur.drew1 ((hT.out.trans (Tur.of_onl ((Onl.refl g wr).setCell _ _) rfl)).trans (Tur.of_onl ((Onl.refl g _).setCell _ _) rfl)))⟩
        case measure => simp [intOf]; omega
    · have EN := Lib.hid (fun i => rvK_end f o n k m i hk hk1 (by omega))
      have hkm : ¬ (k : Int) < (m : Int) := by omega
      go_wp2
      go_end0
      exact ⟨rfl, hrow.out.congr (fun i _ => by rw [EN.out]), hT.out⟩
end Go.Proofs.Ytkbdidpodcclfaa
