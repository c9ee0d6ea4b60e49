/- Fractions in lowest terms. -/
import Derived.Test.YtgcgfnpkkhhkgaaCup
import Derived.BigRegion
namespace Go.Proofs.Ytgcgfnpkkhhkgaa
open Go.RowKit
set_option linter.unusedVariables false

def Low (a b : Int) (w : World) (e : Ending) (w' : World) : Prop := e = .returned (.tuple #[.int .i64 (a.tdiv (Int.gcd a b : Int)), .int .i64 (b / (Int.gcd a b : Int))]) ∧ ∃ n, w' = w.drewN n

theorem gcd_pos (a b : Int) (h : 1 ≤ b) : 1 ≤ (Int.gcd a b : Int) := by
  have : 0 < Int.gcd a b := Int.gcd_pos_of_ne_zero_right a (by omega)
  omega
theorem gcd_start {a b x : Int} (hx : x = a ∨ x = -a) (h0 : 0 ≤ x) (hb : 0 ≤ b) : ∃ p q : Nat, x = p ∧ b = q ∧ Nat.gcd p q = Int.gcd a b := by
  refine ⟨x.natAbs, b.natAbs, by omega, by omega, ?_⟩
  unfold Int.gcd
  rcases hx with rfl | rfl
  · rfl
  · rw [Int.natAbs_neg]

set_option maxHeartbeats 800000 in
theorem implLow_any (a b : Int) (w : World) (a0 : -1000000000 ≤ a) (a1 : a ≤ 1000000000) (b0 : 1 ≤ b) (b1 : b ≤ 1000000) :
    Calls Try.prog 49 #[.int .i64 a, .int .i64 b] w (Low a b w) := by
  have G := gcd_pos a b b0
  have S1 : Hid (a ≤ -a → ∃ p q : Nat, -a = p ∧ b = q ∧ Nat.gcd p q = Int.gcd a b) := Lib.hid (fun h => gcd_start (.inr rfl) (by omega) (by omega))
  have S2 : Hid (-a ≤ a → ∃ p q : Nat, a = p ∧ b = q ∧ Nat.gcd p q = Int.gcd a b) := Lib.hid (fun h => gcd_start (.inl rfl) (by omega) (by omega))
  generalize hg : Int.gcd a b = g at *
  have HG := Lib.hid hg
  clear hg
  go_enter Try.func49, Try.ntmps49
  go_wp2
  all_goals
    rename_i h
    go_loopw [6, 7] (fun x y wr => ∃ p q n : Nat, x = .int .i64 (p : Int) ∧ y = .int .i64 (q : Int) ∧ p ≤ 1000000000 ∧ q ≤ 1000000000 ∧ Hid (Nat.gcd p q = g) ∧ wr = w.drewN n) (fun _ y _ => (intOf y).toNat)
    case atStart =>
      first
      | (obtain ⟨p, q, h1, h2, h3⟩ := S1.out (by omega); refine ⟨p, q, 0, congrArg (Value.int .i64) h1, congrArg (Value.int .i64) h2, ?_, ?_, Lib.hid h3, rfl⟩; omega; omega)
      | (obtain ⟨p, q, h1, h2, h3⟩ := S2.out (by omega); refine ⟨p, q, 0, congrArg (Value.int .i64) h1, congrArg (Value.int .i64) h2, ?_, ?_, Lib.hid h3, rfl⟩; omega; omega)
    case round =>
      obtain ⟨p, q, n, rfl, rfl, hp, hq, hgg, rfl⟩ := hrel
      by_cases hz : q = 0
      · subst hz
        have hpg : p = g := by have := hgg.out; rw [Nat.gcd_zero_right] at this; exact this
        subst hpg
        have hp1 : 1 ≤ (p : Int) := G
        have hz1 : ((p : Int) == 0) = false := by simp; omega
        go_wp2
        go_region
        all_goals
          go_wp2
          go_ret2
          refine ⟨?_, n + 1, rfl⟩
          rw [HG.out]
          first | rfl | (rw [Int.tdiv_eq_ediv_of_nonneg (by omega)]; rfl)
      · have hz1 : ((q : Int) == 0) = false := by simp; omega
        have hz2 : ((q : Int) != 0) = true := by simp; omega
        have hm : p % q < q := Nat.mod_lt _ (by omega)
        have HM : Hid (Nat.gcd q (p % q) = g) := Lib.hid (by rw [Nat.gcd_comm, ← Nat.gcd_rec, Nat.gcd_comm]; exact hgg.out)
        go_wp2
        go_region
        go_wp2
        go_roundw
        case rel => exact ⟨q, p % q, n + 1, rfl, by rw [Int.natCast_emod], hq, by omega, HM, rfl⟩
        case measure => simp [intOf]; omega
set_option maxHeartbeats 800000 in
theorem specLow_any (a b : Int) (w : World) (a0 : -1000000000 ≤ a) (a1 : a ≤ 1000000000) (b0 : 1 ≤ b) (b1 : b ≤ 1000000) :
    Calls Try.prog 48 #[.int .i64 a, .int .i64 b] w (Low a b w) := by
  have G := gcd_pos a b b0
  have S1 : Hid (a ≤ -a → ∃ p q : Nat, -a = p ∧ b = q ∧ Nat.gcd p q = Int.gcd a b) := Lib.hid (fun h => gcd_start (.inr rfl) (by omega) (by omega))
  have S2 : Hid (-a ≤ a → ∃ p q : Nat, a = p ∧ b = q ∧ Nat.gcd p q = Int.gcd a b) := Lib.hid (fun h => gcd_start (.inl rfl) (by omega) (by omega))
  generalize hg : Int.gcd a b = g at *
  have HG := Lib.hid hg
  clear hg
  go_enter Try.func48, Try.ntmps48
  go_wp2
  all_goals
    rename_i h
    go_loopw [6, 7] (fun x y wr => ∃ p q n : Nat, x = .int .i64 (p : Int) ∧ y = .int .i64 (q : Int) ∧ p ≤ 1000000000 ∧ q ≤ 1000000000 ∧ Hid (Nat.gcd p q = g) ∧ wr = w.drewN n) (fun _ y _ => (intOf y).toNat)
    case atStart =>
      first
      | (obtain ⟨p, q, h1, h2, h3⟩ := S1.out (by omega); refine ⟨p, q, 0, congrArg (Value.int .i64) h1, congrArg (Value.int .i64) h2, ?_, ?_, Lib.hid h3, rfl⟩; omega; omega)
      | (obtain ⟨p, q, h1, h2, h3⟩ := S2.out (by omega); refine ⟨p, q, 0, congrArg (Value.int .i64) h1, congrArg (Value.int .i64) h2, ?_, ?_, Lib.hid h3, rfl⟩; omega; omega)
    case round =>
      obtain ⟨p, q, n, rfl, rfl, hp, hq, hgg, rfl⟩ := hrel
      by_cases hz : q = 0
      · subst hz
        have hpg : p = g := by have := hgg.out; rw [Nat.gcd_zero_right] at this; exact this
        subst hpg
        have hp1 : 1 ≤ (p : Int) := G
        have hz1 : ((p : Int) == 0) = false := by simp; omega
        go_wp2
        go_region
        all_goals
          go_wp2
          go_ret2
          refine ⟨?_, n + 1, rfl⟩
          rw [HG.out]
          first | rfl | (rw [Int.tdiv_eq_ediv_of_nonneg (by omega)]; rfl)
      · have hz1 : ((q : Int) == 0) = false := by simp; omega
        have hz2 : ((q : Int) != 0) = true := by simp; omega
        have hm : p % q < q := Nat.mod_lt _ (by omega)
        have HM : Hid (Nat.gcd q (p % q) = g) := Lib.hid (by rw [Nat.gcd_comm, ← Nat.gcd_rec, Nat.gcd_comm]; exact hgg.out)
        go_wp2
        go_region
        go_wp2
        go_roundw
        case rel => exact ⟨q, p % q, n + 1, rfl, by rw [Int.natCast_emod], hq, by omega, HM, rfl⟩
        case measure => simp [intOf]; omega
end Go.Proofs.Ytgcgfnpkkhhkgaa
