/- Prices: whether a list has them; both sides, and the law. -/
import Derived.Test.YtlhjmkdfemejmaaAllJ
import Derived.Test.YtlhjmkdfemejmaaIn
namespace Go.Proofs.Ytlhjmkdfemejmaa
open Go.RowKit
set_option linter.unusedVariables false

/-- as many as hours may be -/
def span (n : Nat) : Bool := decide (1 ≤ n) && decide (n ≤ 96)
def prc (zs : List Int) : Bool := span zs.length && zs.all amt
theorem prc_len {zs : List Int} (h : prc zs = true) : 1 ≤ zs.length ∧ zs.length ≤ 96 := by
  unfold prc span at h
  simp only [Bool.and_eq_true, decide_eq_true_eq] at h
  exact h.1
theorem prc_at {zs : List Int} (h : prc zs = true) (k : Nat) (hk : k < zs.length) : 0 ≤ zs.getD k 0 ∧ zs.getD k 0 ≤ 1000000 := by
  unfold prc at h
  rw [Bool.and_eq_true, List.all_eq_true] at h
  have := h.2 (zs.getD k 0) (by simp [List.getD_eq_getElem?_getD, hk])
  simpa [amt] using this

theorem spanJ_any (v : Value) (zs : List Int) (w : World) (h : JRow w v zs) : Calls Try.prog 144 #[v] w fun e w' => e = .returned (.bool (span zs.length)) ∧ w = w' := by
  obtain ⟨a, cap, rfl⟩ := h.shape
  clear h
  unfold span
  generalize zs.length = n at *
  by_cases h1 : 1 ≤ n
  · have f1 : decide ((1 : Int) ≤ n) = true := by simp; omega
    go_enter Try.func144, Try.ntmps144
    go_wp2
    go_ret
    exact ⟨ret_b (by simp [h1]; omega), rfl⟩
  · have f1 : decide ((1 : Int) ≤ n) = false := by simp; omega
    go_enter Try.func144, Try.ntmps144
    go_wp2
    go_ret
    exact ⟨ret_b (by simp [h1]), rfl⟩

theorem implPrc_any (v : Value) (zs : List Int) (w : World) (h : JRow w v zs) : Calls Try.prog 99 #[v] w (BolB (prc zs) w) := by
  have H := Lib.hid h
  have HS := Lib.hid (spanJ_any v zs w h)
  have HA := Lib.hid (allAmt_any v zs w h)
  obtain ⟨a, cap, rfl⟩ := h.shape
  clear h
  unfold prc
  cases B : span zs.length
  · rw [B] at HS
    go_enter Try.func99, Try.ntmps99
    go_wp2_with fail
    refine HS.out.mono ?_
    rintro e w' ⟨rfl, rfl⟩
    go_wp2
    go_ret
    exact ⟨ret_b (by simp), Below.refl _ _⟩
  · rw [B] at HS
    go_enter Try.func99, Try.ntmps99
    go_wp2_with fail
    refine HS.out.mono ?_
    rintro e w' ⟨rfl, rfl⟩
    go_wp2_with fail
    refine HA.out.mono ?_
    rintro e w' ⟨rfl, hb⟩
    go_wp2
    go_ret
    exact ⟨ret_b (by simp), hb⟩

set_option maxHeartbeats 400000 in
theorem specPrc_any (v : Value) (zs : List Int) (w : World) (h : JRow w v zs) : Calls Try.prog 94 #[v] w (Bol (prc zs) w) := by
  have VS := Lib.hid (fun k (hk : k < zs.length) (h : amt (zs.getD k 0) = false) => show prc zs = false by unfold prc; rw [allJ_none hk h, Bool.and_false])
  have VN := Lib.hid (fun (h1 : span zs.length = true) h => show prc zs = true by unfold prc; rw [h1, allJ_some h]; rfl)
  have VL := Lib.hid (fun (h1 : span zs.length = false) => show prc zs = false by unfold prc; rw [h1]; rfl)
  have HC := Lib.hid (fun (hn : 1 ≤ zs.length) => h.cells hn)
  have HL := Lib.hid h.len
  obtain ⟨a, cap, rfl⟩ := h.shape
  clear h
  generalize prc zs = B at *
  generalize hn : zs.length = n at *
  clear hn
  by_cases h96 : n ≤ 96
  · have f2 : decide ((n : Int) ≤ 96) = true := by simp; omega
    go_enter Try.func94, Try.ntmps94
    go_wp2
    go_loopw [3] (fun i wr => ∃ k q : Nat, k ≤ n ∧ i = .int .i64 k ∧ Hid (∀ j, j < k → amt (zs.getD j 0) = true) ∧ wr = w.drewN q) (fun i _ => n - (intOf i).toNat)
    case atStart => exact ⟨0, 0, Nat.zero_le _, rfl, Lib.hid (fun j hj => absurd hj (Nat.not_lt_zero _)), rfl⟩
    case round =>
      obtain ⟨k, q, hk, rfl, hall, rfl⟩ := hrel
      by_cases hlt : k < n
      · obtain ⟨b0, o0, cap', e, hc⟩ := HC.out (by omega)
        have ea : a = some ⟨b0, o0, none⟩ := by cases e; rfl
        have z0 := hc k hlt
        have VSk := Lib.hid (VS.out k hlt)
        clear e hc
        subst ea
        have hi : (0 : Int) ≤ (k : Int) := by omega
        have hi' : (k : Int) < (n : Int) := by omega
        have f0 : decide ((k : Int) < n) = true := by simp; omega
        generalize hy : zs.getD k 0 = y at *
        cases S : amt y
        · have V := Lib.hid (VSk.out S)
          have S' := Lib.hid S
          go_wp2_with (go_at_call 93; refine (in_any y _ _ _).mono ?_; rw [show (decide (0 ≤ y) && decide (y ≤ 1000000)) = false from S'.out]; rintro e w' ⟨rfl, rfl⟩)
          go_ret
          exact ⟨ret_b V.out, _, rfl⟩
        · have V := Lib.hid (show amt (zs.getD k 0) = true by rw [hy, S])
          have S' := Lib.hid S
          clear hy
          go_wp2_with (go_at_call 93; refine (in_any y _ _ _).mono ?_; rw [show (decide (0 ≤ y) && decide (y ≤ 1000000)) = true from S'.out]; rintro e w' ⟨rfl, rfl⟩)
          go_roundw
          case rel => exact ⟨k + 1, _, by omega, by go_num, Lib.hid (fun j hj => by rcases Nat.lt_succ_iff_lt_or_eq.1 hj with h | h; exact hall.out j h; subst h; exact V.out), rfl⟩
          case measure => simp [intOf]; omega
      · have e := Lib.hid (show k = n by omega)
        have f0 : decide ((k : Int) < n) = false := by simp; omega
        by_cases h1 : 1 ≤ n
        · have f1 : decide ((1 : Int) ≤ n) = true := by simp; omega
          have V := Lib.hid (VN.out (by unfold span; simp [h1, h96]) (by have := e.out; subst this; exact hall.out))
          go_wp2
          go_ret
          exact ⟨ret_b (by rw [V.out]), _, rfl⟩
        · have f1 : decide ((1 : Int) ≤ n) = false := by simp; omega
          have V := Lib.hid (VL.out (by unfold span; simp [h1]))
          go_wp2
          go_ret
          exact ⟨ret_b (by rw [V.out]), _, rfl⟩
  · have f2 : decide ((n : Int) ≤ 96) = false := by simp; omega
    have f1 : decide ((1 : Int) ≤ n) = true := by simp; omega
    have V := Lib.hid (VL.out (by unfold span; simp; omega))
    have hG := HL.out
    have f3 : decide ((0 : Int) < n) = true := by simp; omega
    go_enter Try.func94, Try.ntmps94
    go_wp2
    go_loopw [3] (fun i wr => i = .int .i64 0 ∧ wr = w) (fun i _ => 0)
    case atStart => exact ⟨rfl, rfl⟩
    case round =>
      obtain ⟨rfl, rfl⟩ := hrel
      go_wp2
      go_ret
      exact ⟨ret_b (by rw [V.out]), 0, rfl⟩

end Go.Proofs.Ytlhjmkdfemejmaa
