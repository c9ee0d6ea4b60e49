/- Check numbers of texts. -/
import Derived.Test.YtgbjadckgfeimacSame
import Derived.Lib.Hide
namespace Go.Proofs.Ytgbjadckgfeimac
open Go.RowKit

def byteAt (s : ByteArray) (k : Nat) : Int := (s.data.toList.getD k 0).toNat
theorem byteAt_bd (s : ByteArray) (k : Nat) : 0 ≤ byteAt s k ∧ byteAt s k ≤ 255 := by
  unfold byteAt
  have := (s.data.toList.getD k 0).toNat_lt
  omega
theorem byteAt_eq (s : ByteArray) (k : Nat) (h : k < s.size) : (s[k].toNat : Int) = byteAt s k := by
  unfold byteAt
  have h' : k < s.data.size := h
  have e : s.data.toList.getD k 0 = s[k] := by
    rw [List.getD_eq_getElem?_getD, List.getElem?_eq_getElem (by simpa using h')]
    rfl
  rw [e]
def chkTo (s : ByteArray) (c : Int) : Nat → Int
  | 0 => c
  | k + 1 => (829 * chkTo s c k + byteAt s k + 131) % 65003
theorem chkTo_bd (s : ByteArray) (c : Int) (h0 : 0 ≤ c) (h1 : c < 65003) (k : Nat) : 0 ≤ chkTo s c k ∧ chkTo s c k < 65003 := by
  cases k with
  | zero => exact ⟨h0, h1⟩
  | succ k => simp only [chkTo]; omega

theorem specCheck_any (s : ByteArray) (c : Int) (w : World) (h0 : 0 ≤ c) (h1 : c < 65003) (hs : s.size ≤ 1048576) :
    Calls Try.prog 59 #[.int .i64 c, .string s] w fun e w' => e = .returned (.int .i64 (chkTo s c s.size)) ∧ w = w' := by
  go_enter Try.func59, Try.ntmps59
  go_wp2
  go_loop [0, 5] (fun c' i => ∃ k : Nat, k ≤ s.size ∧ i = .int .i64 k ∧ c' = .int .i64 (chkTo s c k)) (fun _ i => s.size - (intOf i).toNat)
  case atStart => exact ⟨0, Nat.zero_le _, rfl, rfl⟩
  case round =>
    obtain ⟨k, hk, rfl, rfl⟩ := hrel
    by_cases hlt : k < s.size
    · have hb := byteAt_eq s k hlt
      have hbd := byteAt_bd s k
      have hcb := chkTo_bd s c h0 h1 k
      have hcs : Hid (chkTo s c (k + 1) = (829 * chkTo s c k + byteAt s k + 131) % 65003) := Lib.hid rfl
      obtain ⟨hb0, hb1⟩ := hbd
      obtain ⟨hc0, hc1⟩ := hcb
      go_wp2
      go_round
      case rel => exact ⟨k + 1, by omega, by go_num, by rw [hcs.out]⟩
      case measure => simp [intOf]; omega
    · go_wp2
      go_ret
      have : k = s.size := by omega
      subst this
      exact ⟨rfl, rfl⟩

theorem implCheck_yes (s : ByteArray) (c : Int) (w : World) (h0 : 0 ≤ c) (h1 : c < 65003) (hs : s.size ≤ 1048576) :
    Calls Try.prog 28 #[.int .i64 c, .string s] w fun e w' => e = .returned (.tuple #[.int .i64 (chkTo s c s.size), .bool true]) ∧ w = w' := by
  have hd : decide (65003 ≤ c) = false := decide_eq_false (by omega)
  have hd0 : decide (c < 0) = false := decide_eq_false (by omega)
  go_enter Try.func28, Try.ntmps28
  go_wp2
  go_loop [6, 7, 17] (fun c' _ i => ∃ k : Nat, k ≤ s.size ∧ i = .int .i64 k ∧ c' = .int .i64 (chkTo s c k)) (fun _ _ i => s.size - (intOf i).toNat)
  case atStart => exact ⟨0, Nat.zero_le _, rfl, rfl⟩
  case round =>
    obtain ⟨k, hk, rfl, rfl⟩ := hrel
    by_cases hlt : k < s.size
    · have hb := byteAt_eq s k hlt
      have hbd := byteAt_bd s k
      have hcb := chkTo_bd s c h0 h1 k
      have hcs : Hid (chkTo s c (k + 1) = (829 * chkTo s c k + byteAt s k + 131) % 65003) := Lib.hid rfl
      obtain ⟨hb0, hb1⟩ := hbd
      obtain ⟨hc0, hc1⟩ := hcb
      go_wp2
      go_round
      case rel => exact ⟨k + 1, by omega, by go_num, by rw [hcs.out]⟩
      case measure => simp [intOf]; omega
    · go_wp2
      go_ret2
      have : k = s.size := by omega
      subst this
      exact ⟨rfl, rfl⟩

theorem implCheck_no (s : ByteArray) (c : Int) (w : World) (h : c < 0 ∨ 65003 ≤ c) :
    Calls Try.prog 28 #[.int .i64 c, .string s] w fun e w' => e = .returned (.tuple #[.int .i64 0, .bool false]) ∧ w = w' := by
  by_cases h0 : c < 0
  · go_enter Try.func28, Try.ntmps28
    go_wp2
    go_ret2
    exact ⟨rfl, rfl⟩
  · have h1 : 65003 ≤ c := by omega
    have hd0 : decide (c < 0) = false := decide_eq_false h0
    have hd : decide (65003 ≤ c) = true := decide_eq_true h1
    clear h
    go_enter Try.func28, Try.ntmps28
    go_wp2
    go_ret2
    exact ⟨rfl, rfl⟩

theorem specCheckOf_yes (s : ByteArray) (c : Int) (w : World) (h0 : 0 ≤ c) (h1 : c < 65003) (hs : s.size ≤ 1048576) :
    Calls Try.prog 27 #[.int .i64 c, .string s] w fun e w' => e = .returned (.tuple #[.int .i64 (chkTo s c s.size), .bool true]) ∧ w = w' := by
  have hd : decide (c ≤ 65002) = true := decide_eq_true (by omega)
  have hd0 : decide (0 ≤ c) = true := decide_eq_true (by omega)
  go_enter Try.func27, Try.ntmps27
  go_wp2_with (first | (go_at_call 59; refine (specCheck_any _ _ _ h0 h1 hs).mono ?_; rintro e w' ⟨rfl, rfl⟩) | go_in)
  go_ret2
  exact ⟨rfl, rfl⟩

theorem specCheckOf_no (s : ByteArray) (c : Int) (w : World) (h : c < 0 ∨ 65003 ≤ c) :
    Calls Try.prog 27 #[.int .i64 c, .string s] w fun e w' => e = .returned (.tuple #[.int .i64 0, .bool false]) ∧ w = w' := by
  by_cases h0 : c < 0
  · have hd0 : decide (0 ≤ c) = false := decide_eq_false (by omega)
    go_enter Try.func27, Try.ntmps27
    go_wp2_with go_in
    go_ret2
    exact ⟨rfl, rfl⟩
  · have hd0 : decide (0 ≤ c) = true := decide_eq_true (by omega)
    have hd : decide (c ≤ 65002) = false := decide_eq_false (by omega)
    go_enter Try.func27, Try.ntmps27
    go_wp2_with go_in
    go_ret2
    exact ⟨rfl, rfl⟩

theorem checks_agree (s : ByteArray) (c : Int) (hs : s.size ≤ 1048576) : ∃ n b, ∀ w, (Calls Try.prog 27 #[.int .i64 c, .string s] w fun e w' => e = .returned (.tuple #[.int .i64 n, .bool b]) ∧ w = w') ∧
    (Calls Try.prog 28 #[.int .i64 c, .string s] w fun e w' => e = .returned (.tuple #[.int .i64 n, .bool b]) ∧ w = w') := by
  by_cases h : 0 ≤ c ∧ c < 65003
  · exact ⟨_, _, fun w => ⟨specCheckOf_yes s c w h.1 h.2 hs, implCheck_yes s c w h.1 h.2 hs⟩⟩
  · exact ⟨_, _, fun w => ⟨specCheckOf_no s c w (by omega), implCheck_no s c w (by omega)⟩⟩

theorem fnExactCheckOf_walk (c : Int) (s : ByteArray) (w : World) (_wc : (Lit.int .i64 c).wf = true) (_ws : s.size ≤ maxLen) :
    Calls Try.prog 9 #[.int .i64 c, .string s] w (Tru w) := by
  by_cases hs : s.size ≤ 1048576
  · obtain ⟨n, b, hh⟩ := checks_agree s c hs
    have H := Lib.hid hh
    clear hh
    go_enter Try.func9, Try.ntmps9
    go_wp2_with (first | (go_at_call 27; refine ((H.out _).1).mono ?_; rintro e w' ⟨rfl, rfl⟩) | (go_at_call 28; refine ((H.out _).2).mono ?_; rintro e w' ⟨rfl, rfl⟩))
    go_ret
    exact Tru.same
  · go_enter Try.func9, Try.ntmps9
    go_wp2
    go_ret
    exact Tru.same
end Go.Proofs.Ytgbjadckgfeimac
