/- Reads: both sides. -/
import Derived.Test.YtabdinmodopadaaFinL
import Derived.Test.YtabdinmodopadaaSnQ
import Derived.Test.YtabdinmodopadaaSl
namespace Go.Proofs.Ytabdinmodopadaa
open Go.RowKit
set_option linter.unusedVariables false

def rds (zs : List Nat) : Bool := decide (1 ≤ zs.length) && decide (zs.length ≤ 128) && zs.all (fin .f32)
theorem rds_len {zs : List Nat} (h : rds zs = true) : 1 ≤ zs.length ∧ zs.length ≤ 128 := by
  unfold rds at h; simp only [Bool.and_eq_true, decide_eq_true_eq] at h; exact h.1
theorem rds_fin {zs : List Nat} (h : rds zs = true) : zs.all (fin .f32) = true := by
  unfold rds at h; simp only [Bool.and_eq_true] at h; exact h.2
theorem all_at {f : Nat → Bool} {zs : List Nat} (h : zs.all f = true) (k : Nat) (hk : k < zs.length) : f (zs.getD k 0) = true := by
  rw [List.all_eq_true] at h
  have : zs.getD k 0 = zs[k] := by simp [List.getD_eq_getElem?_getD, hk]
  rw [this]; exact h _ (List.getElem_mem _)
theorem rds_at {zs : List Nat} (h : rds zs = true) (k : Nat) (hk : k < zs.length) : fin .f32 (zs.getD k 0) = true := all_at (rds_fin h) k hk

theorem specRds_any (v : Value) (zs : List Nat) (w : World) (h : FRow w v zs) : Calls Try.prog 46 #[v] w (BolB (rds zs) w) := by
  have HF := Lib.hid (specFinL_any v zs w h)
  have gL := h.len
  obtain ⟨a, cap, rfl⟩ := h.shape
  clear h
  unfold rds
  generalize zs.all (fin .f32) = B at *
  generalize zs.length = n at *
  by_cases h1 : 1 ≤ n
  rotate_left
  · have f1 : decide ((1 : Int) ≤ n) = false := by simp; omega
    go_enter Try.func46, Try.ntmps46
    go_wp2
    go_ret
    exact ⟨ret_b (by simp [h1]), Below.refl _ _⟩
  · have f1 : decide ((1 : Int) ≤ n) = true := by simp; omega
    by_cases h2 : n ≤ 128
    rotate_left
    · have f2 : decide ((n : Int) ≤ 128) = false := by simp; omega
      go_enter Try.func46, Try.ntmps46
      go_wp2
      go_ret
      exact ⟨ret_b (by simp [h2]), Below.refl _ _⟩
    · have f2 : decide ((n : Int) ≤ 128) = true := by simp; omega
      have f3 : (!decide (1 ≤ n)) = false := by simp [h1]
      have P1 := Lib.hid (show decide (1 ≤ n) = true by simp [h1])
      have P2 := Lib.hid (show decide (n ≤ 128) = true by simp [h2])
      go_enter Try.func46, Try.ntmps46
      go_wp2_with fail
      refine HF.out.mono ?_
      rintro e w' ⟨rfl, q, rfl⟩
      go_wp2
      go_ret
      exact ⟨ret_b (by rw [P1.out, P2.out]; simp), below_drewN (Below.refl _ _) _⟩

theorem implRds_any (v : Value) (zs : List Nat) (w : World) (h : FRow w v zs) : Calls Try.prog 48 #[v] w (BolB (rds zs) w) := by
  have HF := Lib.hid (allFin_any v zs w h)
  have gL := h.len
  obtain ⟨a, cap, rfl⟩ := h.shape
  clear h
  unfold rds
  generalize zs.all (fin .f32) = B at *
  generalize zs.length = n at *
  by_cases h1 : 1 ≤ n
  rotate_left
  · have f1 : decide ((1 : Int) ≤ n) = false := by simp; omega
    go_enter Try.func48, Try.ntmps48
    go_wp2
    go_ret
    exact ⟨ret_b (by simp [h1]), Below.refl _ _⟩
  · have f1 : decide ((1 : Int) ≤ n) = true := by simp; omega
    by_cases h2 : n ≤ 128
    rotate_left
    · have f2 : decide ((n : Int) ≤ 128) = false := by simp; omega
      go_enter Try.func48, Try.ntmps48
      go_wp2
      go_ret
      exact ⟨ret_b (by simp [h2]), Below.refl _ _⟩
    · have f2 : decide ((n : Int) ≤ 128) = true := by simp; omega
      have f3 : (!decide (1 ≤ n)) = false := by simp [h1]
      have P1 := Lib.hid (show decide (1 ≤ n) = true by simp [h1])
      have P2 := Lib.hid (show decide (n ≤ 128) = true by simp [h2])
      go_enter Try.func48, Try.ntmps48
      go_wp2_with fail
      refine HF.out.mono ?_
      rintro e w1 ⟨rfl, hb⟩
      have Bw := Lib.hid hb
      clear hb
      go_wp2
      go_ret
      exact ⟨ret_b (by rw [P1.out, P2.out]; simp), Bw.out⟩

end Go.Proofs.Ytabdinmodopadaa
