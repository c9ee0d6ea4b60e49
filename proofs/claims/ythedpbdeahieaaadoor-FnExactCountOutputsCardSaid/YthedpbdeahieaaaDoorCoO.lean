/- Outputs counted: both sides, and the law's walk. -/
import Derived.Test.YthedpbdeahieaaaDoorLines
import Derived.OwnWalk
namespace Go.Proofs.YthedpbdeahieaaaDoor
open Go.RowKit
set_option linter.unusedVariables false

def bad (z : ByteArray) : Bool := (z.toList == [110, 111]) || (z.toList == [119, 104, 97, 116])
def nb (l : List ByteArray) : Nat := (l.filter bad).length
theorem nb_le (l : List ByteArray) : nb l ≤ l.length := List.length_filter_le _ _
theorem nb_step (l : List ByteArray) (k : Nat) (h : k < l.length) : nb (l.take (k + 1)) = nb (l.take k) + if bad (l.getD k ⟨#[]⟩) then 1 else 0 := by
  unfold nb
  rw [List.take_add_one, List.getElem?_eq_getElem h, List.filter_append, List.length_append, List.getD_eq_getElem?_getD, List.getElem?_eq_getElem h]
  simp only [Option.toList_some, Option.getD_some]
  congr 1
  by_cases hb : bad l[k] = true
  · simp [List.filter, hb]
  · simp [List.filter, hb]
def okT (s : ByteArray) : Bool := decide (s.size ≤ 16000 ∧ (s.size = 0 ∨ s.data.toList.getLast? = some 10))
def lin (s : ByteArray) : List ByteArray := (cutZ 10 s).dropLast
/-- what is counted -/
def CoB (s : ByteArray) (w : World) (e : Ending) (w' : World) : Prop := e = .returned (.tuple #[.int .i64 (if okT s then (nb (lin s) : Int) else 0), .int .i64 (if okT s then ((lin s).length : Int) - (nb (lin s) : Int) else 0), .bool (okT s)]) ∧ Below w.heap.size w w'
theorem CoB_no {s : ByteArray} {w : World} (h : okT s = false) : CoB s w = fun e w' => e = .returned (.tuple #[.int .i64 0, .int .i64 0, .bool false]) ∧ Below w.heap.size w w' := by
  unfold CoB; rw [h]; rfl
theorem CoB_yes {s : ByteArray} {w : World} {zs : List ByteArray} (h : okT s = true) (hz : lin s = zs) : CoB s w = fun e w' => e = .returned (.tuple #[.int .i64 (nb zs : Int), .int .i64 ((zs.length : Int) - (nb zs : Int)), .bool true]) ∧ Below w.heap.size w w' := by
  unfold CoB; rw [h, hz]; rfl
theorem bytes_empty (z : ByteArray) : z.toList.isEmpty = decide (z.size = 0) := by
  rw [ByteArray.toList_eq]
  have e : z.size = z.data.toList.length := Array.length_toList.symm
  rw [e]
  cases z.data.toList <;> simp
theorem bytes_nil (z : ByteArray) : (z.toList == []) = decide (z.size = 0) := by
  rw [← bytes_empty]; cases z.toList <;> rfl
theorem bytes_lit (z : ByteArray) : (z.toList == (⟨#[]⟩ : ByteArray).toList) = decide (z.size = 0) := by
  rw [← bytes_nil]; congr 1; rw [ByteArray.toList_eq]

set_option maxHeartbeats 1600000 in
set_option maxRecDepth 4000 in
theorem specCo_any (s : ByteArray) (w : World) : Calls Tryd.prog 12 #[.string s] w (CoB s w) := by
  by_cases h16 : s.size ≤ 16000
  · have hd : decide (16000 < (s.size : Int)) = false := decide_eq_false (by omega)
    obtain ⟨zs, z, h, hl, hz⟩ := lin_snoc s
    have HC := Lib.hid (fun w1 => specLines_any s zs z h w1 h16 hl)
    by_cases hz0 : z.size = 0
    · have HP := Lib.hid (CoB_yes (w := w) (s := s) (zs := zs) (decide_eq_true ⟨h16, hz.1 hz0⟩) (by unfold lin; rw [h]; simp))
      have q1 : z.toList.isEmpty = true := by rw [bytes_empty]; exact decide_eq_true hz0
      have q2 : (z.toList == []) = true := by rw [bytes_nil]; exact decide_eq_true hz0
      have q3 : (z.toList == (⟨#[]⟩ : ByteArray).toList) = true := by rw [bytes_lit]; exact decide_eq_true hz0
      clear h hz hz0
      go_enter Tryd.func12, Tryd.ntmps12
      go_wp2_with fail
      refine (HC.out _).mono ?_
      rintro e w1 ⟨v, rfl, hr, hb⟩
      have B := Lib.hid hb
      rcases hr with ⟨⟨a, c, rfl⟩, rfl⟩ | ⟨b, off, cap, rfl, hm, hc⟩
      · clear hb
        go_wp2
        go_loop [7, 8] (fun n i => n = .int .i64 0 ∧ i = .int .i64 0) (fun _ _ => 0)
        case atStart => exact ⟨rfl, rfl⟩
        case round =>
          obtain ⟨rfl, rfl⟩ := hrel
          go_wp2
          go_ret3
          rw [HP.out]
          exact ⟨rfl, B.out⟩
      · have hbd := Lib.hid (nb_le zs)
        clear hb
        go_wp2
        go_loop [7, 8] (fun n i => ∃ k : Nat, k ≤ zs.length ∧ i = .int .i64 k ∧ n = .int .i64 (nb (zs.take k))) (fun _ i => zs.length - (intOf i).toNat)
        case atStart => exact ⟨0, Nat.zero_le _, rfl, rfl⟩
        case round =>
          obtain ⟨k, hk, rfl, rfl⟩ := hrel
          by_cases hlt : k < zs.length
          · have hcell := hc k hlt
            have hst := nb_step zs k hlt
            obtain ⟨x, hx⟩ : ∃ x, zs.getD k ⟨#[]⟩ = x := ⟨_, rfl⟩
            rw [hx] at hcell hst
            have hnk : nb (zs.take k) ≤ k := by have := nb_le (zs.take k); simp at this; omega
            obtain ⟨n, hn⟩ : ∃ n, nb (zs.take k) = n := ⟨_, rfl⟩
            rw [hn] at hst hnk
            have HN := Lib.hid hn
            have e1 : IntKind.i64.wrap ((n : Int) + 1) = (n : Int) + 1 := by
              unfold IntKind.wrap; simp [IntKind.bits, IntKind.signed]; omega
            cases c1 : (x.toList == [110, 111]) with
            | true =>
              have HS : Hid (nb (zs.take (k + 1)) = n + 1) := Lib.hid (by rw [hst]; unfold bad; rw [c1]; rfl)
              clear hst hx hc
              rw [HN.out]
              clear hn
              go_wp2
              go_round
              case rel => exact ⟨k + 1, by omega, by go_num, by rw [HS.out]; go_num⟩
              case measure => simp [intOf]; omega
            | false =>
              cases c2 : (x.toList == [119, 104, 97, 116]) with
              | true =>
                have HS : Hid (nb (zs.take (k + 1)) = n + 1) := Lib.hid (by rw [hst]; unfold bad; rw [c1, c2]; rfl)
                clear hst hx hc
                rw [HN.out]
                clear hn
                go_wp2
                go_round
                case rel => exact ⟨k + 1, by omega, by go_num, by rw [HS.out]; go_num⟩
                case measure => simp [intOf]; omega
              | false =>
                have HS : Hid (nb (zs.take (k + 1)) = n) := Lib.hid (by rw [hst]; unfold bad; rw [c1, c2]; rfl)
                clear hst hx hc
                rw [HN.out]
                clear hn
                go_wp2
                go_round
                case rel => exact ⟨k + 1, by omega, by go_num, by rw [HS.out]⟩
                case measure => simp [intOf]; omega
          · have e : k = zs.length := by omega
            subst e
            rw [List.take_length]
            have hq := hbd.out
            obtain ⟨n, hn⟩ : ∃ n, nb zs = n := ⟨_, rfl⟩
            rw [hn] at hq ⊢
            have HN := Lib.hid hn
            have hmx : maxLen = 9223372036854775807 := rfl
            have e1 : IntKind.i64.wrap ((zs.length : Int) - (n : Int)) = (zs.length : Int) - (n : Int) := by
              unfold IntKind.wrap; simp [IntKind.bits, IntKind.signed]; omega
            clear hn hc
            go_wp2
            go_ret3
            rw [HP.out, HN.out]
            exact ⟨rfl, B.out⟩
    · have HP := Lib.hid (CoB_no (w := w) (s := s) (decide_eq_false (fun x => hz0 (hz.2 x.2))))
      have q1 : z.toList.isEmpty = false := by rw [bytes_empty]; exact decide_eq_false hz0
      have q2 : (z.toList == []) = false := by rw [bytes_nil]; exact decide_eq_false hz0
      have q3 : (z.toList == (⟨#[]⟩ : ByteArray).toList) = false := by rw [bytes_lit]; exact decide_eq_false hz0
      clear h hz hz0
      go_enter Tryd.func12, Tryd.ntmps12
      go_wp2_with fail
      refine (HC.out _).mono ?_
      rintro e w1 ⟨v, rfl, hr, hb⟩
      have B := Lib.hid hb
      clear hb hr
      go_wp2
      go_ret3
      rw [HP.out]
      exact ⟨rfl, B.out⟩
  · have hd : decide (16000 < (s.size : Int)) = true := decide_eq_true (by omega)
    have HP := Lib.hid (CoB_no (w := w) (s := s) (decide_eq_false (fun x => h16 x.1)))
    go_enter Tryd.func12, Tryd.ntmps12
    go_wp2
    go_ret3
    rw [HP.out]
    exact ⟨rfl, Below.refl _ _⟩
end Go.Proofs.YthedpbdeahieaaaDoor
