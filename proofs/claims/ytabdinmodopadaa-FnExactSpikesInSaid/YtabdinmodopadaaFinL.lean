/- Whether all numbers of a list are finite: the specification's. -/
import Derived.Test.YtabdinmodopadaaAllF
namespace Go.Proofs.Ytabdinmodopadaa
open Go.RowKit
set_option linter.unusedVariables false

theorem specFinL_any (v : Value) (zs : List Nat) (w : World) (h : FRow w v zs) : Calls Try.prog 71 #[v] w (Bol (zs.all (fin .f32)) w) := by
  have VS := Lib.hid (fun k (hk : k < zs.length) (h : (!(fin .f32 (zs.getD k 0))) = true) => any_some (f := fun z => !(fin .f32 z)) hk h)
  have VN := Lib.hid (fun h => any_none (f := fun z => !(fin .f32 z)) (zs := zs) h)
  have EQ := Lib.hid (not_any_not (fin .f32) zs)
  have HC := Lib.hid (fun (hn : 1 ≤ zs.length) => h.cells hn)
  have HL := Lib.hid h.len
  obtain ⟨a, cap, rfl⟩ := h.shape
  clear h
  generalize zs.any (fun z => !(fin .f32 z)) = b at *
  generalize zs.all (fin .f32) = B at *
  generalize hn : zs.length = n at *
  clear hn
  go_enter Try.func71, Try.ntmps71
  go_wp2
  go_loopw [3] (fun i wr => ∃ k q : Nat, k ≤ n ∧ i = .int .i64 k ∧ Hid (∀ j, j < k → (!(fin .f32 (zs.getD j 0))) = false) ∧ wr = w.drewN q) (fun i _ => n - (intOf i).toNat)
  case atStart => exact ⟨0, 0, Nat.zero_le _, rfl, Lib.hid (fun j hj => absurd hj (Nat.not_lt_zero _)), rfl⟩
  case round =>
    obtain ⟨k, q, hk, rfl, hall, rfl⟩ := hrel
    by_cases hlt : k < n
    · obtain ⟨b0, o0, cap', e, hc⟩ := HC.out (by omega)
      have ea : a = some ⟨b0, o0, none⟩ := by cases e; rfl
      have z0 := hc k hlt
      have VSk := Lib.hid (VS.out k hlt)
      clear e hc
      subst ea
      have hG := HL.out
      have hi : (0 : Int) ≤ (k : Int) := by omega
      have hi' : (k : Int) < (n : Int) := by omega
      generalize hy : zs.getD k 0 = y at *
      cases S : fin .f32 y
      · have V := Lib.hid (VSk.out (by rw [S]; rfl))
        go_wp2_with (go_at_call 76; refine (specFinite_any y _).mono ?_; rw [S]; rintro e w' ⟨rfl, m, rfl⟩)
        go_ret
        exact ⟨ret_b (by rw [← EQ.out, V.out]; rfl), _, rfl⟩
      · have V := Lib.hid (show (!(fin .f32 (zs.getD k 0))) = false by rw [hy, S]; rfl)
        clear hy
        go_wp2_with (go_at_call 76; refine (specFinite_any y _).mono ?_; rw [S]; rintro e w' ⟨rfl, m, rfl⟩)
        go_roundw
        case rel => exact ⟨k + 1, _, by omega, by go_num, Lib.hid (fun j hj => by rcases Nat.lt_succ_iff_lt_or_eq.1 hj with h | h; exact hall.out j h; subst h; exact V.out), rfl⟩
        case measure => simp [intOf]; omega
    · have e := Lib.hid (show k = n by omega)
      go_wp2
      go_ret
      have := e.out
      subst this
      exact ⟨ret_b (by rw [← EQ.out, VN.out hall.out]; rfl), _, rfl⟩

end Go.Proofs.Ytabdinmodopadaa
