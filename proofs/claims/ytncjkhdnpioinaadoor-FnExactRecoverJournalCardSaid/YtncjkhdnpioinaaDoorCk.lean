/- Check numbers: both sides. -/
import Derived.Test.YtncjkhdnpioinaaDoorBy
import Derived.Lib.Hide
namespace Go.Proofs.YtncjkhdnpioinaaDoor
open Go.RowKit
set_option linter.unusedVariables false

def chkTo (s : ByteArray) (c : Int) : Nat → Int
  | 0 => c
  | k + 1 => (829 * chkTo s c k + byteAt s k + 131) % 65003
theorem chkTo_bd (s : ByteArray) (c : Int) (h0 : 0 ≤ c) (h1 : c < 65003) (k : Nat) : 0 ≤ chkTo s c k ∧ chkTo s c k < 65003 := by
  cases k with
  | zero => exact ⟨h0, h1⟩
  | succ k => simp only [chkTo]; omega

theorem specCheck_any (s : ByteArray) (c : Int) (w : World) (h0 : 0 ≤ c) (h1 : c < 65003) (hs : s.size ≤ 1048576) :
    Calls Tryd.prog 141 #[.int .i64 c, .string s] w fun e w' => e = .returned (.int .i64 (chkTo s c s.size)) ∧ w = w' := by
  go_enter Tryd.func141, Tryd.ntmps141
  go_wp2
  go_loop [0, 5] (fun c' i => ∃ k : Nat, k ≤ s.size ∧ i = .int .i64 k ∧ c' = .int .i64 (chkTo s c k)) (fun _ i => s.size - (intOf i).toNat)
  case atStart => exact ⟨0, Nat.zero_le _, rfl, rfl⟩
  case round =>
    obtain ⟨k, hk, rfl, rfl⟩ := hrel
    by_cases hlt : k < s.size
    · have hb := byteAt_eq s k hlt
      have hbd := byteAt_bd s k
      have hcb := chkTo_bd s c h0 h1 k
      have hcs : Hid (chkTo s c (k + 1) = (829 * chkTo s c k + byteAt s k + 131) % 65003) := Lib.hid rfl
      obtain ⟨hb0, hb1⟩ := hbd
      obtain ⟨hc0, hc1⟩ := hcb
      go_wp2
      go_round
      case rel => exact ⟨k + 1, by omega, by go_num, by rw [hcs.out]⟩
      case measure => simp [intOf]; omega
    · go_wp2
      go_ret
      have : k = s.size := by omega
      subst this
      exact ⟨rfl, rfl⟩

theorem implCheck_yes (s : ByteArray) (c : Int) (w : World) (h0 : 0 ≤ c) (h1 : c < 65003) (hs : s.size ≤ 1048576) :
    Calls Tryd.prog 144 #[.int .i64 c, .string s] w fun e w' => e = .returned (.tuple #[.int .i64 (chkTo s c s.size), .bool true]) ∧ w = w' := by
  have hd : decide (65003 ≤ c) = false := decide_eq_false (by omega)
  have hd0 : decide (c < 0) = false := decide_eq_false (by omega)
  go_enter Tryd.func144, Tryd.ntmps144
  go_wp2
  go_loop [6, 7, 17] (fun c' _ i => ∃ k : Nat, k ≤ s.size ∧ i = .int .i64 k ∧ c' = .int .i64 (chkTo s c k)) (fun _ _ i => s.size - (intOf i).toNat)
  case atStart => exact ⟨0, Nat.zero_le _, rfl, rfl⟩
  case round =>
    obtain ⟨k, hk, rfl, rfl⟩ := hrel
    by_cases hlt : k < s.size
    · have hb := byteAt_eq s k hlt
      have hbd := byteAt_bd s k
      have hcb := chkTo_bd s c h0 h1 k
      have hcs : Hid (chkTo s c (k + 1) = (829 * chkTo s c k + byteAt s k + 131) % 65003) := Lib.hid rfl
      obtain ⟨hb0, hb1⟩ := hbd
      obtain ⟨hc0, hc1⟩ := hcb
      go_wp2
      go_round
      case rel => exact ⟨k + 1, by omega, by go_num, by rw [hcs.out]⟩
      case measure => simp [intOf]; omega
    · go_wp2
      go_ret2
      have : k = s.size := by omega
      subst this
      exact ⟨rfl, rfl⟩


end Go.Proofs.YtncjkhdnpioinaaDoor
