/- Names of tracks: both sides. -/
import Derived.Test.YtabdinmodopadaaBy
import Derived.Test.YtabdinmodopadaaPosW
namespace Go.Proofs.Ytabdinmodopadaa
open Go.RowKit
set_option linter.unusedVariables false

def okB (s : ByteArray) (k : Nat) : Prop := 97 ≤ byteAt s k ∧ byteAt s k ≤ 122
instance (s : ByteArray) (k : Nat) : Decidable (okB s k) := by unfold okB; exact inferInstance
def isN (s : ByteArray) : Bool := decide (1 ≤ s.size ∧ s.size ≤ 8 ∧ ∀ k, k < s.size → okB s k)

theorem isN_bad {s : ByteArray} {k : Nat} (h : k < s.size) (hb : ¬ okB s k) : isN s = false := decide_eq_false fun ⟨_, _, h3⟩ => hb (h3 k h)
theorem isN_all {s : ByteArray} (h : ∀ j, j < s.size → okB s j) : isN s = decide (1 ≤ s.size ∧ s.size ≤ 8) := by
  unfold isN
  exact decide_eq_decide.2 ⟨fun ⟨a, b, _⟩ => ⟨a, b⟩, fun ⟨a, b⟩ => ⟨a, b, h⟩⟩

theorem ret_bool {a b : Bool} (h : a = b) : Ending.returned (.bool a) = .returned (.bool b) := by rw [h]

theorem specNm_any (s : ByteArray) (w : World) (hs : s.size ≤ 1048576) :
    Calls Try.prog 77 #[.string s] w fun e w' => e = .returned (.bool (isN s)) ∧ w = w' := by
  go_enter Try.func77, Try.ntmps77
  go_wp2
  go_loop [3] (fun i => ∃ k : Nat, k ≤ s.size ∧ i = .int .i64 k ∧ Hid (∀ j, j < k → okB s j)) (fun i => s.size - (intOf i).toNat)
  case atStart => exact ⟨0, Nat.zero_le _, rfl, Lib.hid (fun j h => by omega)⟩
  case round =>
    obtain ⟨k, hk, rfl, hall⟩ := hrel
    by_cases hlt : k < s.size
    · have hb := byteAt_eq s k hlt
      by_cases h1 : byteAt s k < 97
      · have hd : decide (byteAt s k < 97) = true := decide_eq_true h1
        have hn := Lib.hid (isN_bad hlt (fun h => by have := h.1; omega))
        go_wp2
        go_ret
        exact ⟨ret_bool hn.out.symm, rfl⟩
      · have hd : decide (byteAt s k < 97) = false := decide_eq_false h1
        by_cases h2 : 122 < byteAt s k
        · have hd2 : decide (122 < byteAt s k) = true := decide_eq_true h2
          have hn := Lib.hid (isN_bad hlt (fun h => by have := h.2; omega))
          go_wp2
          go_ret
          exact ⟨ret_bool hn.out.symm, rfl⟩
        · have hd2 : decide (122 < byteAt s k) = false := decide_eq_false h2
          have hk1 : okB s k := ⟨by omega, by omega⟩
          have hnew := Lib.hid (show ∀ j, j < k + 1 → okB s j from fun j hj => by
            by_cases e : j = k
            · rw [e]; exact hk1
            · exact hall.out j (by omega))
          clear hk1
          go_wp2
          go_round
          case rel => exact ⟨k + 1, by omega, by go_num, hnew⟩
          case measure => simp [intOf]; omega
    · have e : k = s.size := by omega
      have hn := Lib.hid (isN_all (by rw [← e]; exact hall.out))
      clear e
      by_cases h1 : 1 ≤ s.size
      · by_cases h2 : s.size ≤ 8
        · have hd1 : decide (1 ≤ (s.size : Int)) = true := decide_eq_true (by omega)
          have hd2 : decide ((s.size : Int) ≤ 8) = true := decide_eq_true (by omega)
          go_wp2
          go_ret
          exact ⟨ret_bool (by rw [hn.out, decide_eq_true ⟨h1, h2⟩]), rfl⟩
        · have hd1 : decide (1 ≤ (s.size : Int)) = true := decide_eq_true (by omega)
          have hd2 : decide ((s.size : Int) ≤ 8) = false := decide_eq_false (by omega)
          go_wp2
          go_ret
          exact ⟨ret_bool (by rw [hn.out, decide_eq_false (fun h => h2 h.2)]), rfl⟩
      · have hd1 : decide (1 ≤ (s.size : Int)) = false := decide_eq_false (by omega)
        go_wp2
        go_ret
        exact ⟨ret_bool (by rw [hn.out, decide_eq_false (fun h => h1 h.1)]), rfl⟩


theorem below_iter (w : World) (s : ByteArray) (p : Nat) : Below w.heap.size w (w.iter s p) := (Below.refl _ _).alloc (Nat.le_refl _) _

theorem isEmpty_eq (s : ByteArray) : s.toList.isEmpty = decide (s.size = 0) := by
  rw [ByteArray.toList_eq]
  have e : s.size = s.data.toList.length := Array.length_toList.symm
  rw [e]
  cases s.data.toList with
  | nil => rfl
  | cons a l => rfl

theorem implName_no (s : ByteArray) (w : World) (h : s.size = 0 ∨ 8 < s.size) : Calls Try.prog 57 #[.string s] w (BolB (isN s) w) := by
  have hn := Lib.hid (show isN s = false from decide_eq_false fun ⟨h1, h2, _⟩ => by omega)
  by_cases h0 : s.size = 0
  · have hne : s.toList.isEmpty = true := by rw [isEmpty_eq]; exact decide_eq_true h0
    clear h h0
    go_enter Try.func57, Try.ntmps57
    go_wp2
    go_ret
    exact ⟨ret_bool (by rw [hn.out]), Below.refl _ _⟩
  · have hne : s.toList.isEmpty = false := by rw [isEmpty_eq]; exact decide_eq_false h0
    have hd : decide (8 < (s.size : Int)) = true := decide_eq_true (by omega)
    go_enter Try.func57, Try.ntmps57
    go_wp2
    go_ret
    exact ⟨ret_bool (by rw [hn.out]), Below.refl _ _⟩

theorem implName_yes (s : ByteArray) (w : World) (h1 : 1 ≤ s.size) (h2 : s.size ≤ 8) : Calls Try.prog 57 #[.string s] w (BolB (isN s) w) := by
  have hne : s.toList.isEmpty = false := by rw [isEmpty_eq]; exact decide_eq_false (by omega)
  have hd : decide (8 < (s.size : Int)) = false := decide_eq_false (by omega)
  go_enter Try.func57, Try.ntmps57
  go_wp2
  go_loopw [4] (fun _ w' => ∃ pos : Nat, pos ≤ s.size ∧ w' = w.iter s pos ∧ Hid (∀ j, j < pos → okB s j)) (fun _ w' => s.size - w'.iterPos w.heap.size)
  case atStart => exact ⟨0, Nat.zero_le _, rfl, Lib.hid (fun j h => by omega)⟩
  case round =>
    obtain ⟨pos, hpos, rfl, hall⟩ := hrel
    by_cases hp : pos < s.size
    · have hb := byteAt_eq s pos hp
      by_cases ha : (s[pos]'hp).toNat < 128
      · have hnx : ∀ ty, (Instr.next (.pointer (some ⟨w.heap.size, 0, none⟩)) true ty).run Try.prog (w.iter s pos) = .ok (.tuple #[.bool true, .int .i64 pos, .int .i32 (byteAt s pos)]) (w.iter s (pos + 1)) := fun ty => by rw [run_next_ascii w s pos ty hp ha, hb]
        have hbd := byteAt_bd s pos
        obtain ⟨hb0, hb1⟩ := hbd
        clear hb ha
        by_cases g1 : byteAt s pos < 97
        · have hd1 : decide (byteAt s pos < 97) = true := decide_eq_true g1
          have hn := Lib.hid (isN_bad hp (fun h => by have := h.1; omega))
          go_wp2
          go_ret
          exact ⟨ret_bool hn.out.symm, below_iter _ _ _⟩
        · have hd1 : decide (byteAt s pos < 97) = false := decide_eq_false g1
          by_cases g2 : 122 < byteAt s pos
          · have hd2 : decide (122 < byteAt s pos) = true := decide_eq_true g2
            have hn := Lib.hid (isN_bad hp (fun h => by have := h.2; omega))
            go_wp2
            go_ret
            exact ⟨ret_bool hn.out.symm, below_iter _ _ _⟩
          · have hd2 : decide (122 < byteAt s pos) = false := decide_eq_false g2
            have hk1 : okB s pos := ⟨by omega, by omega⟩
            have hnew := Lib.hid (show ∀ j, j < pos + 1 → okB s j from fun j hj => by
              by_cases e : j = pos
              · rw [e]; exact hk1
              · exact hall.out j (by omega))
            clear hk1
            go_wp2
            go_roundw
            case rel => exact ⟨pos + 1, by omega, rfl, hnew⟩
            case measure => simp; omega
      · have hi := decode_high s pos hp (by omega)
        have hlo := decode_le s pos
        have hnx : ∀ ty, (Instr.next (.pointer (some ⟨w.heap.size, 0, none⟩)) true ty).run Try.prog (w.iter s pos) = .ok (.tuple #[.bool true, .int .i64 pos, .int .i32 (Utf8.decode s pos).1]) (w.iter s (pos + (Utf8.decode s pos).2)) := fun ty => run_next_any w s pos ty hp
        have hn := Lib.hid (isN_bad hp (fun h => by have := h.2; rw [← hb] at this; omega))
        clear hb ha
        generalize (Utf8.decode s pos).1 = r at *
        generalize (Utf8.decode s pos).2 = q at *
        have hd1 : decide ((r : Int) < 97) = false := decide_eq_false (by omega)
        have hd2 : decide (122 < (r : Int)) = true := decide_eq_true (by omega)
        go_wp2
        go_ret
        exact ⟨ret_bool hn.out.symm, below_iter _ _ _⟩
    · have e : pos = s.size := by omega
      have hn := Lib.hid (isN_all (by rw [← e]; exact hall.out))
      clear e
      have hnx : ∀ ty, (Instr.next (.pointer (some ⟨w.heap.size, 0, none⟩)) true ty).run Try.prog (w.iter s pos) = .ok (.tuple #[.bool false]) (w.iter s pos) := fun ty => run_next_end w s pos ty hp
      go_wp2
      go_ret
      exact ⟨ret_bool (by rw [hn.out, decide_eq_true ⟨h1, h2⟩]), below_iter _ _ _⟩

theorem implName_any (s : ByteArray) (w : World) : Calls Try.prog 57 #[.string s] w (BolB (isN s) w) := by
  by_cases h : 1 ≤ s.size ∧ s.size ≤ 8
  · exact implName_yes s w h.1 h.2
  · exact implName_no s w (by omega)


end Go.Proofs.Ytabdinmodopadaa
