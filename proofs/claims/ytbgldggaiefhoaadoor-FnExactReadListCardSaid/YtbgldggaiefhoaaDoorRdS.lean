/- Numbers read in decimal: the specification. -/
import Derived.Test.YtbgldggaiefhoaaDoorRdI
import Derived.Test.YtbgldggaiefhoaaDoorIn
import Derived.Test.YtbgldggaiefhoaaDoorRun
namespace Go.Proofs.YtbgldggaiefhoaaDoor
open Go.RowKit
set_option linter.unusedVariables false

/-- what the digits of the first bytes make -/
def vk (s : ByteArray) (k : Nat) : Int := (vof (s.data.toList.take k) : Int)
theorem vk_at {s : ByteArray} {k : Nat} (h : k < s.size) : vk s (k + 1) = if 48 ≤ byteAt s k ∧ byteAt s k ≤ 57 then 10 * vk s k + (byteAt s k - 48) else vk s k := by
  have hl : k < s.data.toList.length := by simpa using h
  unfold vk byteAt
  rw [vof_take_succ _ k _ (List.getElem?_eq_getElem hl), List.getD_eq_getElem?_getD, List.getElem?_eq_getElem hl]
  simp only [Option.getD_some]
  unfold vstep
  split <;> split <;> omega
theorem vk_bd (s : ByteArray) {k : Nat} (h : k ≤ 17) : 0 ≤ vk s k ∧ vk s k < 100000000000000000 := by
  unfold vk
  have h1 := vof_take_lt s.data.toList k
  have h2 : 10 ^ k ≤ 10 ^ 17 := Nat.pow_le_pow_right (by decide) h
  have e17 : (10 : Nat) ^ 17 = 100000000000000000 := by decide
  omega
theorem vk_all (s : ByteArray) (h : 1 ≤ s.size) : sval s.data.toList = if byteAt s 0 = 45 then -(vk s s.size) else vk s s.size := by
  have hL : s.data.toList.length = s.size := Array.length_toList
  have hl : 0 < s.data.toList.length := by omega
  have e : s.data.toList.take s.size = s.data.toList := List.take_of_length_le (by omega)
  have e0 : s.data.toList.head? = s.data.toList[0]? := by cases s.data.toList <;> rfl
  unfold sval vk byteAt
  rw [e, e0, List.getD_eq_getElem?_getD, List.getElem?_eq_getElem hl]
  simp only [Option.getD_some, Option.some.injEq]
  have : (s.data.toList[0] = 45) ↔ ((s.data.toList[0].toNat : Int) = 45) := by
    constructor
    · intro h; rw [h]; rfl
    · intro h
      have h' : s.data.toList[0].toNat = (45 : UInt8).toNat := by
        have : (45 : UInt8).toNat = 45 := rfl
        omega
      exact UInt8.toNat_inj.1 h'
  split <;> split <;> simp_all

set_option maxHeartbeats 1600000 in
set_option maxRecDepth 4000 in
theorem specRd_in (s : ByteArray) (w : World) (h1 : 1 ≤ s.size) (h17 : s.size ≤ 17) : Calls Tryd.prog 58 #[.string s] w (RdB s w) := by
  have hd1 : decide ((s.size : Int) < 1) = false := decide_eq_false (by omega)
  have hd2 : decide (17 < (s.size : Int)) = false := decide_eq_false (by omega)
  go_enter Tryd.func58, Tryd.ntmps58
  go_wp2
  go_loop [4, 5] (fun n i => ∃ k : Nat, k ≤ s.size ∧ i = .int .i64 k ∧ n = .int .i64 (vk s k)) (fun _ i => s.size - (intOf i).toNat)
  case atStart => exact ⟨0, Nat.zero_le _, rfl, rfl⟩
  case round =>
    obtain ⟨k, hk, rfl, rfl⟩ := hrel
    by_cases hlt : k < s.size
    · have hb := byteAt_eq s k hlt
      have hbd := byteAt_bd s k
      obtain ⟨v0, v1⟩ := vk_bd s (show k ≤ 17 by omega)
      have hs := vk_at hlt
      obtain ⟨hb0, hb1⟩ := hbd
      by_cases c1 : 48 ≤ byteAt s k
      · have hc1 : decide (48 ≤ byteAt s k) = true := decide_eq_true c1
        by_cases c2 : byteAt s k ≤ 57
        · have hc2 : decide (byteAt s k ≤ 57) = true := decide_eq_true c2
          rw [if_pos ⟨c1, c2⟩] at hs
          have e0 : IntKind.u8.wrap (byteAt s k - 48) = byteAt s k - 48 := by
            unfold IntKind.wrap; simp [IntKind.bits, IntKind.signed]; omega
          have e2 : IntKind.i64.wrap (byteAt s k - 48) = byteAt s k - 48 := by
            unfold IntKind.wrap; simp [IntKind.bits, IntKind.signed]; omega
          have e1 : IntKind.i64.wrap (10 * vk s k) = 10 * vk s k := by
            unfold IntKind.wrap; simp [IntKind.bits, IntKind.signed]; omega
          have e3 : IntKind.i64.wrap (10 * vk s k + (byteAt s k - 48)) = 10 * vk s k + (byteAt s k - 48) := by
            unfold IntKind.wrap; simp [IntKind.bits, IntKind.signed]; omega
          have HS := Lib.hid hs
          clear hs
          go_wp2
          go_round
          case rel => exact ⟨k + 1, by omega, by go_num, by rw [HS.out]⟩
          case measure => simp [intOf]; omega
        · have hc2 : decide (byteAt s k ≤ 57) = false := decide_eq_false c2
          rw [if_neg (fun h => c2 h.2)] at hs
          have HS := Lib.hid hs
          clear hs
          go_wp2
          go_round
          case rel => exact ⟨k + 1, by omega, by go_num, by rw [HS.out]⟩
          case measure => simp [intOf]; omega
      · have hc1 : decide (48 ≤ byteAt s k) = false := decide_eq_false c1
        rw [if_neg (fun h => c1 h.1)] at hs
        have HS := Lib.hid hs
        clear hs
        go_wp2
        go_round
        case rel => exact ⟨k + 1, by omega, by go_num, by rw [HS.out]⟩
        case measure => simp [intOf]; omega
    · have ek : k = s.size := by omega
      subst ek
      clear hlt hk
      have hb := byteAt_eq s 0 (by omega)
      have hsv := vk_all s h1
      obtain ⟨v0, v1⟩ := vk_bd s h17
      have hz : decide (0 < (s.size : Int)) = true := decide_eq_true (by omega)
      by_cases c45 : byteAt s 0 = 45
      · have hq : (byteAt s 0 == 45) = true := by simp [c45]
        have ev : sval s.data.toList = -(vk s s.size) := by rw [hsv]; simp [c45]
        have e1 : IntKind.i64.wrap (-(vk s s.size)) = -(vk s s.size) := by
          unfold IntKind.wrap; simp [IntKind.bits, IntKind.signed]; omega
        clear hsv
        obtain ⟨x, hx⟩ : ∃ x, -(vk s s.size) = x := ⟨_, rfl⟩
        rw [hx] at ev
        rw [hx] at e1
        have x0 : -9223372036854775808 ≤ x := by omega
        have x1 : x ≤ 9223372036854775807 := by omega
        have HD := Lib.hid (fun w1 => specDec_any x w1 x0 x1)
        have HI := Lib.hid (fun w1 => in_any x (-1000000000000000) 1000000000000000 w1)
        have HX := Lib.hid hx
        by_cases hv : -1000000000000000 ≤ x ∧ x ≤ 1000000000000000
        · have hd : (decide (-1000000000000000 ≤ x) && decide (x ≤ 1000000000000000)) = true := by simp [hv.1, hv.2]
          rw [hd] at HI
          by_cases he : decZ x = s
          · have HR := Lib.hid (show RdB s w = fun e w' => e = .returned (.tuple #[.int .i64 x, .bool true]) ∧ Below w.heap.size w w' by
              have r1 := (rdOk_of hv.1 hv.2 he).1
              unfold RdB rdV; rw [r1, if_pos rfl, ev])
            have hne : ((decZ x).toList == s.toList) = true := by rw [he]; exact beq_self_eq_true _
            clear hx ev x0 x1 hv hd he
            go_wp2_with fail
            rw [HX.out]
            refine (HI.out _).mono ?_
            rintro e w1 ⟨rfl, rfl⟩
            go_wp2_with fail
            refine (HD.out _).mono ?_
            rintro e w2 ⟨rfl, hb⟩
            have B := Lib.hid hb
            clear hb
            go_wp2
            go_ret2
            rw [HR.out]
            exact ⟨rfl, B.out⟩
          · have HR := Lib.hid (show RdB s w = fun e w' => e = .returned (.tuple #[.int .i64 0, .bool false]) ∧ Below w.heap.size w w' by
              have r1 : rdOk s = false := decide_eq_false (fun h => he (by rw [← ev]; exact h.2.2.2.2))
              unfold RdB rdV; rw [r1]; rfl)
            have hne : ((decZ x).toList == s.toList) = false := zne he
            clear hx ev x0 x1 hv hd he
            go_wp2_with fail
            rw [HX.out]
            refine (HI.out _).mono ?_
            rintro e w1 ⟨rfl, rfl⟩
            go_wp2_with fail
            refine (HD.out _).mono ?_
            rintro e w2 ⟨rfl, hb⟩
            have B := Lib.hid hb
            clear hb
            go_wp2
            go_ret2
            rw [HR.out]
            exact ⟨rfl, B.out⟩
        · have hd : (decide (-1000000000000000 ≤ x) && decide (x ≤ 1000000000000000)) = false := by
            cases h : (decide (-1000000000000000 ≤ x) && decide (x ≤ 1000000000000000)) with
            | false => rfl
            | true => simp at h; exact absurd h hv
          rw [hd] at HI
          have HR := Lib.hid (show RdB s w = fun e w' => e = .returned (.tuple #[.int .i64 0, .bool false]) ∧ Below w.heap.size w w' by
            have r1 : rdOk s = false := decide_eq_false (fun h => hv (by rw [← ev]; exact ⟨h.2.2.1, h.2.2.2.1⟩))
            unfold RdB rdV; rw [r1]; rfl)
          clear hx ev x0 x1 hv hd
          go_wp2_with fail
          rw [HX.out]
          refine (HI.out _).mono ?_
          rintro e w1 ⟨rfl, rfl⟩
          go_wp2
          go_ret2
          rw [HR.out]
          exact ⟨rfl, Below.refl _ _⟩
      · have hq : (byteAt s 0 == 45) = false := by simp [c45]
        have ev : sval s.data.toList = vk s s.size := by rw [hsv]; simp [c45]
        clear hsv
        obtain ⟨x, hx⟩ : ∃ x, vk s s.size = x := ⟨_, rfl⟩
        rw [hx] at ev
        have x0 : -9223372036854775808 ≤ x := by omega
        have x1 : x ≤ 9223372036854775807 := by omega
        have HD := Lib.hid (fun w1 => specDec_any x w1 x0 x1)
        have HI := Lib.hid (fun w1 => in_any x (-1000000000000000) 1000000000000000 w1)
        have HX := Lib.hid hx
        by_cases hv : -1000000000000000 ≤ x ∧ x ≤ 1000000000000000
        · have hd : (decide (-1000000000000000 ≤ x) && decide (x ≤ 1000000000000000)) = true := by simp [hv.1, hv.2]
          rw [hd] at HI
          by_cases he : decZ x = s
          · have HR := Lib.hid (show RdB s w = fun e w' => e = .returned (.tuple #[.int .i64 x, .bool true]) ∧ Below w.heap.size w w' by
              have r1 := (rdOk_of hv.1 hv.2 he).1
              unfold RdB rdV; rw [r1, if_pos rfl, ev])
            have hne : ((decZ x).toList == s.toList) = true := by rw [he]; exact beq_self_eq_true _
            clear hx ev x0 x1 hv hd he
            go_wp2_with fail
            rw [HX.out]
            refine (HI.out _).mono ?_
            rintro e w1 ⟨rfl, rfl⟩
            go_wp2_with fail
            refine (HD.out _).mono ?_
            rintro e w2 ⟨rfl, hb⟩
            have B := Lib.hid hb
            clear hb
            go_wp2
            go_ret2
            rw [HR.out]
            exact ⟨rfl, B.out⟩
          · have HR := Lib.hid (show RdB s w = fun e w' => e = .returned (.tuple #[.int .i64 0, .bool false]) ∧ Below w.heap.size w w' by
              have r1 : rdOk s = false := decide_eq_false (fun h => he (by rw [← ev]; exact h.2.2.2.2))
              unfold RdB rdV; rw [r1]; rfl)
            have hne : ((decZ x).toList == s.toList) = false := zne he
            clear hx ev x0 x1 hv hd he
            go_wp2_with fail
            rw [HX.out]
            refine (HI.out _).mono ?_
            rintro e w1 ⟨rfl, rfl⟩
            go_wp2_with fail
            refine (HD.out _).mono ?_
            rintro e w2 ⟨rfl, hb⟩
            have B := Lib.hid hb
            clear hb
            go_wp2
            go_ret2
            rw [HR.out]
            exact ⟨rfl, B.out⟩
        · have hd : (decide (-1000000000000000 ≤ x) && decide (x ≤ 1000000000000000)) = false := by
            cases h : (decide (-1000000000000000 ≤ x) && decide (x ≤ 1000000000000000)) with
            | false => rfl
            | true => simp at h; exact absurd h hv
          rw [hd] at HI
          have HR := Lib.hid (show RdB s w = fun e w' => e = .returned (.tuple #[.int .i64 0, .bool false]) ∧ Below w.heap.size w w' by
            have r1 : rdOk s = false := decide_eq_false (fun h => hv (by rw [← ev]; exact ⟨h.2.2.1, h.2.2.2.1⟩))
            unfold RdB rdV; rw [r1]; rfl)
          clear hx ev x0 x1 hv hd
          go_wp2_with fail
          rw [HX.out]
          refine (HI.out _).mono ?_
          rintro e w1 ⟨rfl, rfl⟩
          go_wp2
          go_ret2
          rw [HR.out]
          exact ⟨rfl, Below.refl _ _⟩

theorem specRd_out (s : ByteArray) (w : World) (h : ¬ (1 ≤ s.size ∧ s.size ≤ 17)) : Calls Tryd.prog 58 #[.string s] w (RdB s w) := by
  have HR := Lib.hid (show RdB s w = fun e w' => e = .returned (.tuple #[.int .i64 0, .bool false]) ∧ Below w.heap.size w w' by
    have r1 : rdOk s = false := decide_eq_false (fun h2 => h ⟨h2.1, h2.2.1⟩)
    unfold RdB rdV; rw [r1]; rfl)
  by_cases h1 : 1 ≤ s.size
  · have hd1 : decide ((s.size : Int) < 1) = false := decide_eq_false (by omega)
    have hd2 : decide (17 < (s.size : Int)) = true := decide_eq_true (by omega)
    go_enter Tryd.func58, Tryd.ntmps58
    go_wp2
    go_ret2
    rw [HR.out]
    exact ⟨rfl, Below.refl _ _⟩
  · have hd1 : decide ((s.size : Int) < 1) = true := decide_eq_true (by omega)
    go_enter Tryd.func58, Tryd.ntmps58
    go_wp2
    go_ret2
    rw [HR.out]
    exact ⟨rfl, Below.refl _ _⟩
theorem specRd_any (s : ByteArray) (w : World) : Calls Tryd.prog 25 #[.string s] w (RdB s w) := by
  have HC := Lib.hid (show Calls Tryd.prog 58 #[.string s] w (RdB s w) from
    if h : 1 ≤ s.size ∧ s.size ≤ 17 then specRd_in s w h.1 h.2 else specRd_out s w h)
  go_enter Tryd.func25, Tryd.ntmps25
  go_wp2_with fail
  refine HC.out.mono ?_
  rintro e w1 ⟨rfl, hb⟩
  have B := Lib.hid hb
  clear hb
  go_wp2
  go_ret2
  exact ⟨rfl, B.out⟩
theorem fnExactReadDecimal_walk (s : ByteArray) (w : World) (hw : s.size ≤ maxLen) (ht : TabsE w) : Calls Tryd.prog 6 #[.string s] w (Tru w) := by
  by_cases hs : s.size ≤ 1048576
  · have hd : decide (1048576 < (s.size : Int)) = false := decide_eq_false (by omega)
    have HS := Lib.hid (fun w1 => specRd_any s w1)
    have HI := Lib.hid (fun w1 h => implRd_any s w1 hs h)
    have HT := Lib.hid ht
    obtain ⟨v, hv⟩ : ∃ v, rdV s = v := ⟨_, rfl⟩
    obtain ⟨b, hb⟩ : ∃ b, rdOk s = b := ⟨_, rfl⟩
    unfold RdB at HS HI
    rw [hv, hb] at HS HI
    clear hw ht hs hv hb
    go_enter Tryd.func6, Tryd.ntmps6
    go_wp2_with fail
    refine (HS.out _).mono ?_
    rintro e w1 ⟨rfl, hb⟩
    have Bw := Lib.hid hb
    have HT := Lib.hid (HT.out.below hb)
    clear hb
    go_wp2_with fail
    refine (HI.out _ HT.out).mono ?_
    rintro e w2 ⟨rfl, hb⟩
    have Bw := Lib.hid (below_step Bw.out hb)
    clear hb
    go_wp2
    go_ret
    exact Tru.below Bw.out
  · have hd : decide (1048576 < (s.size : Int)) = true := decide_eq_true (by omega)
    go_enter Tryd.func6, Tryd.ntmps6
    go_wp2
    go_ret
    exact Tru.below (Below.refl _ _)
end Go.Proofs.YtbgldggaiefhoaaDoor
