/- Numbers read from hexadecimal digits: one number, the program's side. -/
import Derived.Test.YtbgldggaiefhoaaDoorHexW
import Derived.Test.YtbgldggaiefhoaaDoorBy
import Derived.Test.YtbgldggaiefhoaaDoorCell
import Derived.Test.YtbgldggaiefhoaaDoorRlM
namespace Go.Proofs.YtbgldggaiefhoaaDoor
open Go.RowKit
set_option linter.unusedVariables false

/-- the value of a digit, or less than 0 -/
def hxd (c : Int) : Int := if 48 ≤ c ∧ c ≤ 57 then c - 48 else if 97 ≤ c ∧ c ≤ 102 then c - 87 else -1
theorem hxd_dig {c : Int} (h0 : 48 ≤ c) (h1 : c ≤ 57) : hxd c = c - 48 := if_pos ⟨h0, h1⟩
theorem hxd_low {c : Int} (h0 : 97 ≤ c) (h1 : c ≤ 102) : hxd c = c - 87 := by unfold hxd; rw [if_neg (by omega), if_pos ⟨h0, h1⟩]
theorem hxd_no {c : Int} (h0 : ¬ (48 ≤ c ∧ c ≤ 57)) (h1 : ¬ (97 ≤ c ∧ c ≤ 102)) : hxd c = -1 := by unfold hxd; rw [if_neg h0, if_neg h1]
theorem hxd_le (c : Int) : hxd c ≤ 15 := by
  unfold hxd
  split
  · omega
  · split <;> omega
/-- what the first digits make -/
def hxv (s : ByteArray) : Nat → Int
  | 0 => 0
  | k + 1 => 16 * hxv s k + hxd (byteAt s k)
theorem hxv_bd (s : ByteArray) : ∀ k : Nat, (∀ j, j < k → 0 ≤ hxd (byteAt s j)) → 0 ≤ hxv s k ∧ hxv s k < ((16 ^ k : Nat) : Int)
  | 0, _ => ⟨Int.le_refl _, by show (0 : Int) < 1; omega⟩
  | k + 1, h => by
    have ⟨h0, h1⟩ := hxv_bd s k (fun j hj => h j (by omega))
    have h2 := h k (by omega)
    have h3 := hxd_le (byteAt s k)
    have e : (16 ^ (k + 1) : Nat) = 16 ^ k * 16 := Nat.pow_succ ..
    show 0 ≤ 16 * hxv s k + hxd (byteAt s k) ∧ 16 * hxv s k + hxd (byteAt s k) < _
    rw [e]
    omega
theorem hxv_lt (s : ByteArray) {k : Nat} (hk : k ≤ 8) (h : ∀ j, j < k → 0 ≤ hxd (byteAt s j)) : 0 ≤ hxv s k ∧ hxv s k ≤ 4294967295 := by
  have ⟨h0, h1⟩ := hxv_bd s k h
  have h2 : 16 ^ k ≤ 16 ^ 8 := Nat.pow_le_pow_right (by decide) hk
  have e : (16 : Nat) ^ 8 = 4294967296 := by decide
  omega
instance (s : ByteArray) : Decidable (∀ j : Nat, j < 8 → 0 ≤ hxd (byteAt s j)) := Nat.decidableBallLT 8 fun j _ => 0 ≤ hxd (byteAt s j)
/-- whether a text is that of a number, and the number -/
def rnOk (s : ByteArray) : Bool := decide (s.size = 8 ∧ (∀ j, j < 8 → 0 ≤ hxd (byteAt s j)) ∧ (hbit (hxv s 8).toNat : Int) = hxv s 8)
def rnV (s : ByteArray) : Nat := if rnOk s then (hxv s 8).toNat else 0
theorem rn_size {s : ByteArray} (h : ¬ s.size = 8) : rnOk s = false := decide_eq_false fun x => h x.1
theorem rn_dig {s : ByteArray} {j : Nat} (hj : j < 8) (h : hxd (byteAt s j) < 0) : rnOk s = false := decide_eq_false fun x => by have := x.2.1 j hj; omega
theorem rn_bits {s : ByteArray} (h : ¬ (hbit (hxv s 8).toNat : Int) = hxv s 8) : rnOk s = false := decide_eq_false fun x => h x.2.2
theorem rn_yes {s : ByteArray} (h : s.size = 8) (h1 : ∀ j, j < 8 → 0 ≤ hxd (byteAt s j)) (h2 : (hbit (hxv s 8).toNat : Int) = hxv s 8) : rnOk s = true ∧ rnV s = (hxv s 8).toNat := by
  have e : rnOk s = true := decide_eq_true ⟨h, h1, h2⟩
  exact ⟨e, by unfold rnV; rw [if_pos e]⟩
theorem rnV_no {s : ByteArray} (h : rnOk s = false) : rnV s = 0 := by unfold rnV; rw [h]; rfl
def RnB (s : ByteArray) (w : World) (e : Ending) (w' : World) : Prop := e = .returned (.tuple #[.float .f32 (rnV s), .bool (rnOk s)]) ∧ Below w.heap.size w w'
theorem RnB_no {s : ByteArray} {w : World} (h : rnOk s = false) : RnB s w = fun e w' => e = .returned (.tuple #[.float .f32 0, .bool false]) ∧ Below w.heap.size w w' := by
  unfold RnB; rw [rnV_no h, h]
theorem implHd_yes (r : Int) (w : World) (h : 0 ≤ hxd r) : Calls Tryd.prog 98 #[.int .i32 r] w fun e w' => e = .returned (.tuple #[.int .i64 (hxd r), .bool true]) ∧ w' = w := by
  by_cases a : 48 ≤ r ∧ r ≤ 57
  · have e := hxd_dig a.1 a.2
    have c1 : decide (48 ≤ r) = true := decide_eq_true a.1
    have c2 : decide (r ≤ 57) = true := decide_eq_true a.2
    have e1 : IntKind.i32.wrap (r - 48) = r - 48 := by unfold IntKind.wrap; simp [IntKind.bits, IntKind.signed]; omega
    have e2 : IntKind.i64.wrap (r - 48) = r - 48 := by unfold IntKind.wrap; simp [IntKind.bits, IntKind.signed]; omega
    rw [e]
    clear e h a
    go_enter Tryd.func98, Tryd.ntmps98
    go_wp2
    go_ret2
    exact ⟨rfl, rfl⟩
  · by_cases b : 97 ≤ r ∧ r ≤ 102
    · have e := hxd_low b.1 b.2
      have c1 : decide (48 ≤ r) = true := decide_eq_true (by omega)
      have c2 : decide (r ≤ 57) = false := decide_eq_false (by omega)
      have c3 : decide (97 ≤ r) = true := decide_eq_true b.1
      have c4 : decide (r ≤ 102) = true := decide_eq_true b.2
      have e1 : IntKind.i32.wrap (r - 97) = r - 97 := by unfold IntKind.wrap; simp [IntKind.bits, IntKind.signed]; omega
      have e2 : IntKind.i64.wrap (r - 97) = r - 97 := by unfold IntKind.wrap; simp [IntKind.bits, IntKind.signed]; omega
      have e3 : IntKind.i64.wrap (r - 97 + 10) = r - 97 + 10 := by unfold IntKind.wrap; simp [IntKind.bits, IntKind.signed]; omega
      have HE := Lib.hid (show r - 97 + 10 = hxd r by rw [e]; omega)
      clear e h a b
      go_enter Tryd.func98, Tryd.ntmps98
      go_wp2
      go_ret2
      rw [HE.out]
      exact ⟨rfl, rfl⟩
    · rw [hxd_no a b] at h; omega
theorem implHd_no (r : Int) (w : World) (h : hxd r < 0) : Calls Tryd.prog 98 #[.int .i32 r] w fun e w' => e = .returned (.tuple #[.int .i64 0, .bool false]) ∧ w' = w := by
  have a : ¬ (48 ≤ r ∧ r ≤ 57) := fun a => by have := hxd_dig a.1 a.2; omega
  have b : ¬ (97 ≤ r ∧ r ≤ 102) := fun a => by have := hxd_low a.1 a.2; omega
  by_cases a1 : 48 ≤ r
  · have c1 : decide (48 ≤ r) = true := decide_eq_true a1
    have c2 : decide (r ≤ 57) = false := decide_eq_false (by omega)
    by_cases b1 : 97 ≤ r
    · have c3 : decide (97 ≤ r) = true := decide_eq_true b1
      have c4 : decide (r ≤ 102) = false := decide_eq_false (by omega)
      go_enter Tryd.func98, Tryd.ntmps98
      go_wp2
      go_ret2
      exact ⟨rfl, rfl⟩
    · have c3 : decide (97 ≤ r) = false := decide_eq_false b1
      go_enter Tryd.func98, Tryd.ntmps98
      go_wp2
      go_ret2
      exact ⟨rfl, rfl⟩
  · have c1 : decide (48 ≤ r) = false := decide_eq_false a1
    have c3 : decide (97 ≤ r) = false := decide_eq_false (by omega)
    go_enter Tryd.func98, Tryd.ntmps98
    go_wp2
    go_ret2
    exact ⟨rfl, rfl⟩
theorem implFb_any (n : Int) (w : World) (h0 : 0 ≤ n) (h1 : n ≤ 4294967295) : Calls Tryd.prog 99 #[.int .i64 n] w fun e w' => e = .returned (.tuple #[.float .f32 n.toNat, .bool true]) ∧ w' = w := by
  go_enter Tryd.func99, Tryd.ntmps99
  go_wp2_with go_in
  go_ret2
  exact ⟨rfl, rfl⟩
theorem specFr_any (n : Int) (w : World) (h0 : 0 ≤ n) (h1 : n ≤ 4294967295) : Calls Tryd.prog 95 #[.int .i64 n] w fun e w' => e = .returned (.float .f32 n.toNat) ∧ w' = w := by
  go_enter Tryd.func95, Tryd.ntmps95
  go_wp2_with go_in
  go_ret
  exact ⟨rfl, rfl⟩
theorem wf_of {n : Int} (h0 : 0 ≤ n) (h1 : n ≤ 4294967295) : (Lit.float .f32 n.toNat).wf = true := by
  simp [Lit.wf]; omega
theorem below_it (w : World) (s : ByteArray) (p : Nat) : Below w.heap.size w (w.iter s p) := (Below.refl _ _).alloc (Nat.le_refl _) _

set_option maxHeartbeats 1600000 in
set_option maxRecDepth 4000 in
theorem implRn_any (s : ByteArray) (w : World) : Calls Tryd.prog 56 #[.string s] w (RnB s w) := by
  by_cases h8 : s.size = 8
  · have hd8 : ((s.size : Int) != 8) = false := by simp [h8]
    have hd9 : ((s.size : Int) == 8) = true := by simp [h8]
    have HY := Lib.hid (fun r h w1 => implHd_yes r w1 h)
    have HNo := Lib.hid (fun r h w1 => implHd_no r w1 h)
    have HF := Lib.hid (fun n h0 h1 w1 => implFb_any n w1 h0 h1)
    have HB := Lib.hid (fun a h w1 => implHb_any a w1 h)
    go_enter Tryd.func56, Tryd.ntmps56
    go_wp2
    go_loopw [4, 6, 7, 8] (fun n _ _ _ w' => ∃ pos : Nat, pos ≤ s.size ∧ n = .int .i64 (hxv s pos) ∧ w' = w.iter s pos ∧ Hid (∀ j, j < pos → 0 ≤ hxd (byteAt s j))) (fun _ _ _ _ w' => s.size - w'.iterPos w.heap.size)
    case atStart => exact ⟨0, Nat.zero_le _, rfl, rfl, Lib.hid (fun j h => by omega)⟩
    case round =>
      obtain ⟨pos, hpos, rfl, rfl, hall⟩ := hrel
      have hvb := hxv_lt s (k := pos) (by omega) hall.out
      by_cases hp : pos < s.size
      · have hb := byteAt_eq s pos hp
        by_cases ha : (s[pos]'hp).toNat < 128
        · have hnx : ∀ ty, (Instr.next (.pointer (some ⟨w.heap.size, 0, none⟩)) true ty).run Tryd.prog (w.iter s pos) = .ok (.tuple #[.bool true, .int .i64 pos, .int .i32 (byteAt s pos)]) (w.iter s (pos + 1)) := fun ty => by rw [run_next_ascii w s pos ty hp ha, hb]
          clear hb ha
          by_cases g : 0 ≤ hxd (byteAt s pos)
          · have HD := Lib.hid (HY.out _ g)
            have hdl := hxd_le (byteAt s pos)
            obtain ⟨d, hdd⟩ : ∃ d, hxd (byteAt s pos) = d := ⟨_, rfl⟩
            obtain ⟨n, hnn⟩ : ∃ n, hxv s pos = n := ⟨_, rfl⟩
            have HS : Hid (hxv s (pos + 1) = 16 * n + d) := Lib.hid (by rw [← hdd, ← hnn]; rfl)
            have hnew := Lib.hid (show ∀ j, j < pos + 1 → 0 ≤ hxd (byteAt s j) from fun j hj => by
              by_cases e : j = pos
              · rw [e]; exact g
              · exact hall.out j (by omega))
            rw [hdd] at HD hdl g
            rw [hnn] at hvb ⊢
            clear hdd hnn
            have e1 : IntKind.i64.wrap (16 * n) = 16 * n := by unfold IntKind.wrap; simp [IntKind.bits, IntKind.signed]; omega
            have e2 : IntKind.i64.wrap (16 * n + d) = 16 * n + d := by unfold IntKind.wrap; simp [IntKind.bits, IntKind.signed]; omega
            go_wp2_with fail
            refine (HD.out _).mono ?_
            rintro e w1 ⟨rfl, rfl⟩
            go_wp2
            go_roundw
            case rel => exact ⟨pos + 1, by omega, by rw [HS.out], rfl, hnew⟩
            case measure => simp; omega
          · have HD := Lib.hid (HNo.out (byteAt s pos) (by omega))
            have HR := Lib.hid (RnB_no (w := w) (rn_dig (s := s) (j := pos) (by omega) (by omega)))
            clear g
            go_wp2_with fail
            refine (HD.out _).mono ?_
            rintro e w1 ⟨rfl, rfl⟩
            go_wp2
            go_ret2
            rw [HR.out]
            exact ⟨rfl, below_it _ _ _⟩
        · have hi := decode_high s pos hp (by omega)
          have hlo := decode_le s pos
          have hnx : ∀ ty, (Instr.next (.pointer (some ⟨w.heap.size, 0, none⟩)) true ty).run Tryd.prog (w.iter s pos) = .ok (.tuple #[.bool true, .int .i64 pos, .int .i32 (Utf8.decode s pos).1]) (w.iter s (pos + (Utf8.decode s pos).2)) := fun ty => run_next_any w s pos ty hp
          have g0 : hxd (byteAt s pos) = -1 := hxd_no (by omega) (by omega)
          have HR := Lib.hid (RnB_no (w := w) (rn_dig (s := s) (j := pos) (by omega) (by omega)))
          clear hb ha g0
          generalize (Utf8.decode s pos).1 = r at *
          generalize (Utf8.decode s pos).2 = q at *
          have g1 : hxd (r : Int) = -1 := hxd_no (by omega) (by omega)
          have HD := Lib.hid (HNo.out (r : Int) (by omega))
          clear g1
          go_wp2_with fail
          refine (HD.out _).mono ?_
          rintro e w1 ⟨rfl, rfl⟩
          go_wp2
          go_ret2
          rw [HR.out]
          exact ⟨rfl, below_it _ _ _⟩
      · have e : pos = 8 := by omega
        subst e
        have hnx : ∀ ty, (Instr.next (.pointer (some ⟨w.heap.size, 0, none⟩)) true ty).run Tryd.prog (w.iter s 8) = .ok (.tuple #[.bool false]) (w.iter s 8) := fun ty => run_next_end w s 8 ty hp
        have HFB := Lib.hid (HF.out _ hvb.1 hvb.2)
        have HBB := Lib.hid (HB.out _ (wf_of hvb.1 hvb.2))
        by_cases hq : (hbit (hxv s 8).toNat : Int) = hxv s 8
        · have HR := Lib.hid (show RnB s w = fun e w' => e = .returned (.tuple #[.float .f32 (hxv s 8).toNat, .bool true]) ∧ Below w.heap.size w w' by
            have y := rn_yes h8 hall.out hq
            unfold RnB; rw [y.1, y.2])
          obtain ⟨n, hnn⟩ : ∃ n, hxv s 8 = n := ⟨_, rfl⟩
          rw [hnn] at HR hq HFB HBB ⊢
          obtain ⟨t, htt⟩ : ∃ t : Nat, n.toNat = t := ⟨_, rfl⟩
          rw [htt] at HR hq HFB HBB
          obtain ⟨u, huu⟩ : ∃ u : Nat, hbit t = u := ⟨_, rfl⟩
          rw [huu] at HBB hq
          have q1 : ((u : Int) == n) = true := by simp [hq]
          have q2 : ((u : Int) != n) = false := by simp [hq]
          clear hnn htt huu hvb hq
          go_wp2_with fail
          refine (HFB.out _).mono ?_
          rintro e w1 ⟨rfl, rfl⟩
          go_wp2_with fail
          refine (HBB.out _).mono ?_
          rintro e w1 ⟨rfl, rfl⟩
          go_wp2
          go_ret2
          rw [HR.out]
          exact ⟨rfl, below_it _ _ _⟩
        · have HR := Lib.hid (RnB_no (w := w) (rn_bits hq))
          obtain ⟨n, hnn⟩ : ∃ n, hxv s 8 = n := ⟨_, rfl⟩
          rw [hnn] at hq HFB HBB ⊢
          obtain ⟨t, htt⟩ : ∃ t : Nat, n.toNat = t := ⟨_, rfl⟩
          rw [htt] at hq HFB HBB
          obtain ⟨u, huu⟩ : ∃ u : Nat, hbit t = u := ⟨_, rfl⟩
          rw [huu] at HBB hq
          have q1 : ((u : Int) == n) = false := by simp [hq]
          have q2 : ((u : Int) != n) = true := by simp [hq]
          clear hnn htt huu hvb hq
          go_wp2_with fail
          refine (HFB.out _).mono ?_
          rintro e w1 ⟨rfl, rfl⟩
          go_wp2_with fail
          refine (HBB.out _).mono ?_
          rintro e w1 ⟨rfl, rfl⟩
          go_wp2
          go_ret2
          rw [HR.out]
          exact ⟨rfl, below_it _ _ _⟩
  · have hd8 : ((s.size : Int) != 8) = true := by simp; omega
    have hd9 : ((s.size : Int) == 8) = false := by simp; omega
    have HR := Lib.hid (RnB_no (w := w) (rn_size h8))
    go_enter Tryd.func56, Tryd.ntmps56
    go_wp2
    go_ret2
    rw [HR.out]
    exact ⟨rfl, Below.refl _ _⟩
end Go.Proofs.YtbgldggaiefhoaaDoor
