/- The laws' marks: numbers written into a slice one after another, and read again. -/
import Derived.Test.YtkbdidpodcclfaaRodC
import Derived.Test.YtkbdidpodcclfaaOnl
namespace Go.Proofs.Ytkbdidpodcclfaa
open Go.RowKit
set_option linter.unusedVariables false

def mkF (f : Nat → Nat) (o n k i : Nat) : Nat := if o ≤ i ∧ i < o + n then fb (k + (i - o)) else f i
theorem mkF_zero (f : Nat → Nat) (o k i : Nat) : mkF f o 0 k i = f i := by unfold mkF; rw [if_neg (by omega)]

theorem mark_any (g o n N k c : Nat) (f : Nat → Nat) (w : World) (hr : w.rowIs g 22 N (fun i => .float .f32 (f i))) (ho : o + n ≤ N) (hn : n ≤ 48) (hk : k ≤ 400) :
    Calls Try.prog 26 #[.slice (some ⟨g, o, none⟩) n c, .int .i64 k] w fun e w' => e = .returned (.int .i64 ((k + n : Nat) : Int)) ∧ w'.rowIs g 22 N (fun i => .float .f32 (mkF f o n k i)) ∧ Onl g w w' := by
  have HR := Lib.hid hr
  have HO := Lib.hid ho
  clear hr ho
  go_enter Try.func26, Try.ntmps26
  go_wp2
  go_loopw [1, 5] (fun q i wr => ∃ j : Nat, j ≤ n ∧ i = .int .i64 j ∧ q = .int .i64 ((k + j : Nat) : Int) ∧ Hid (wr.rowIs g 22 N (fun i => .float .f32 (mkF f o j k i))) ∧ Hid (Onl g w wr)) (fun _ i _ => n - (intOf i).toNat)
  case atStart => exact ⟨0, Nat.zero_le _, rfl, rfl, Lib.hid (HR.out.congr (fun i _ => by rw [mkF_zero])), Lib.hid (Onl.refl g w)⟩
  case round =>
    obtain ⟨j, hj, rfl, rfl, hrow, hon⟩ := hrel
    by_cases hlt : j < n
    · have hjN : o + j < N := by have := HO.out; omega
      have e3 : wr.cell? ⟨g, o + j, none⟩ = some (.float .f32 (mkF f o j k (o + j))) := hrow.out.cell hjN
      have e4 : wr.frozen? ⟨g, o + j, none⟩ = false := hrow.out.frozen _
      generalize mkF f o j k (o + j) = old at *
      have hi : (0 : Int) ≤ (j : Int) := by omega
      have hi' : (j : Int) < (n : Int) := by omega
      go_wp2
      go_roundw
      case rel =>
        refine ⟨j + 1, by omega, by go_num, by go_num, Lib.hid ((hrow.out.set (o + j) _).congr (fun i hi => ?_)), Lib.hid (Onl.setCell hon.out _ _)⟩
        by_cases e : i = o + j
        · subst e
          simp only [if_pos, mkF]
          rw [if_pos (by omega)]
          unfold fb
          congr 2
          omega
        · rw [if_neg e]
          unfold mkF
          by_cases h1 : o ≤ i ∧ i < o + j
          · rw [if_pos h1, if_pos (by omega)]
          · rw [if_neg h1, if_neg (by omega)]
      case measure => simp [intOf]; omega
    · have e := Lib.hid (show j = n by omega)
      go_wp2
      go_ret
      have := e.out
      subst this
      exact ⟨rfl, hrow.out, hon.out⟩

theorem held_any (g o n N k c : Nat) (f : Nat → Nat) (w : World) (hr : w.rowIs g 22 N (fun i => .float .f32 (f i))) (ho : o + n ≤ N) (hn : n ≤ 48) (hk : k ≤ 400) (hf : ∀ i, i < n → f (o + i) = fb (k + i)) :
    Calls Try.prog 30 #[.slice (some ⟨g, o, none⟩) n c, .int .i64 k] w fun e w' => e = .returned (.int .i64 ((k + n : Nat) : Int)) ∧ w = w' := by
  have HC : Hid (∀ i, i < n → w.cell? ⟨g, o + i, none⟩ = some (.float .f32 (fb (k + i)))) := Lib.hid (fun i hi => by rw [hr.cell (by omega), hf i hi])
  clear hr ho hf
  go_enter Try.func30, Try.ntmps30
  go_wp2
  go_loop [1, 5] (fun q i => ∃ j : Nat, j ≤ n ∧ i = .int .i64 j ∧ q = .int .i64 ((k + j : Nat) : Int)) (fun _ i => n - (intOf i).toNat)
  case atStart => exact ⟨0, Nat.zero_le _, rfl, rfl⟩
  case round =>
    obtain ⟨j, hj, rfl, rfl⟩ := hrel
    by_cases hlt : j < n
    · have z0 := HC.out j hlt
      have es := fb_self (k + j) (by omega)
      have en : (FloatKind.f32.format.order (fb (k + j)) (fb (k + j)) != some .eq) = false := by simpa using es
      unfold fb at z0 es en
      rw [Int.natCast_add] at z0 es en
      have hi : (0 : Int) ≤ (j : Int) := by omega
      have hi' : (j : Int) < (n : Int) := by omega
      go_wp2
      go_round
      case rel => exact ⟨j + 1, by omega, by go_num, by go_num⟩
      case measure => simp [intOf]; omega
    · have e := Lib.hid (show j = n by omega)
      go_wp2
      go_ret
      have := e.out
      subst this
      exact ⟨rfl, rfl⟩

theorem mark_nil (k : Nat) (w : World) (hk : k ≤ 400) : Calls Try.prog 26 #[.slice none 0 0, .int .i64 k] w fun e w' => e = .returned (.int .i64 k) ∧ w = w' := by
  go_enter Try.func26, Try.ntmps26
  go_wp2
  go_loop [1, 5] (fun q i => i = .int .i64 0 ∧ q = .int .i64 k) (fun _ _ => 0)
  case atStart => exact ⟨rfl, rfl⟩
  case round =>
    obtain ⟨rfl, rfl⟩ := hrel
    go_wp2
    go_ret
    exact ⟨rfl, rfl⟩
theorem held_nil (k : Nat) (w : World) (hk : k ≤ 400) : Calls Try.prog 30 #[.slice none 0 0, .int .i64 k] w fun e w' => e = .returned (.int .i64 k) ∧ w = w' := by
  go_enter Try.func30, Try.ntmps30
  go_wp2
  go_loop [1, 5] (fun q i => i = .int .i64 0 ∧ q = .int .i64 k) (fun _ _ => 0)
  case atStart => exact ⟨rfl, rfl⟩
  case round =>
    obtain ⟨rfl, rfl⟩ := hrel
    go_wp2
    go_ret
    exact ⟨rfl, rfl⟩

/-- a rod of n cells whose four lists lie one behind the other in block g -/
def inBlk (g n : Nat) : Value := .agg #[.slice (some ⟨g, 0, none⟩) n n, .slice (some ⟨g, n, none⟩) n n, .slice (some ⟨g, 2 * n, none⟩) n n, .slice (some ⟨g, 3 * n, none⟩) n n]
theorem mkF_all (f : Nat → Nat) (n i : Nat) (hi : i < 4 * n) : mkF (mkF (mkF (mkF f 0 n 1) n n (1 + n)) (2 * n) n (1 + n + n)) (3 * n) n (1 + n + n + n) i = fb (1 + i) := by
  unfold mkF
  by_cases h3 : 3 * n ≤ i
  · rw [if_pos (by omega)]; congr 1; omega
  · rw [if_neg (by omega)]
    by_cases h2 : 2 * n ≤ i
    · rw [if_pos (by omega)]; congr 1; omega
    · rw [if_neg (by omega)]
      by_cases h1 : n ≤ i
      · rw [if_pos (by omega)]; congr 1; omega
      · rw [if_neg (by omega), if_pos (by omega)]; congr 1

end Go.Proofs.Ytkbdidpodcclfaa
