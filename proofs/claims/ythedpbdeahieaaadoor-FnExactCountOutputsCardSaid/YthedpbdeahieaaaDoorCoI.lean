/- Outputs counted: the program, and the law's walk. -/
import Derived.Test.YthedpbdeahieaaaDoorCoO
namespace Go.Proofs.YthedpbdeahieaaaDoor
open Go.RowKit
set_option linter.unusedVariables false

theorem suf_one (s : ByteArray) (c : UInt8) : Lib.hasSuffix s.data.toList [c] = decide (s.data.toList.getLast? = some c) := by
  unfold Lib.hasSuffix
  rcases List.eq_nil_or_concat s.data.toList with h | ⟨l, a, h⟩
  · rw [h]; rfl
  · rw [h]
    simp only [List.concat_eq_append, List.getLast?_append, List.getLast?_singleton, Option.some_or, Option.some.injEq]
    unfold List.isSuffixOf
    simp only [List.reverse_append, List.reverse_cons, List.reverse_nil, List.nil_append, List.cons_append, List.isPrefixOf, Bool.and_true]
    by_cases e : a = c
    · simp [e]
    · have : c ≠ a := fun h => e h.symm
      simp [e, this]
/-- what strings.Split hands back, cut short by its last part -/
theorem split_row (s : ByteArray) (zs : List ByteArray) (z : ByteArray) (h : cutZ 10 s = zs ++ [z]) (w : World) (hl : zs.length ≤ 16000) :
    ∀ c', ZRow (w.alloc (.cells ((Lib.splitB (mkZ 10) 0 (Lib.countB s (mkZ 10)) s).map Value.string).toArray 9)) (.slice (some ⟨w.heap.size, 0, none⟩) zs.length c') zs := by
  intro c'
  have hmx : maxLen = 9223372036854775807 := rfl
  have ho : OwnZ (w.alloc (.cells ((Lib.splitB (mkZ 10) 0 (Lib.countB s (mkZ 10)) s).map Value.string).toArray 9)) w.heap.size (.slice (some ⟨w.heap.size, 0, none⟩) (zs ++ [z]).length (zs ++ [z]).length) (zs ++ [z]) := by
    show World.ownsRow _ _ _ _ _ _ _
    have e : Lib.splitB (mkZ 10) 0 (Lib.countB s (mkZ 10)) s = zs ++ [z] := h
    rw [e]
    have := World.ownsRow_lit (w := w) (base := w.heap.size) (e := 9) (size := 1) ((zs ++ [z]).map Value.string).toArray (zs ++ [z]).length (Nat.le_refl _) (by simp; omega) (by simp)
    exact this
  refine .inr ⟨w.heap.size, 0, c', rfl, by omega, fun i hi => ?_⟩
  rw [Nat.zero_add, ho.cellAt i (by simp; omega)]
  simp [List.getD_eq_getElem?_getD, List.getElem?_append_left hi]
theorem implLines_no (s : ByteArray) (w : World) (hs : s.size ≤ 1048576) (h : okT s = false) : Calls Tryd.prog 47 #[.string s] w fun e w' => e = .returned (.tuple #[.slice none 0 0, .bool false]) ∧ w' = w := by
  by_cases h16 : s.size ≤ 16000
  · have hd : decide (16000 < (s.size : Int)) = false := decide_eq_false (by omega)
    have h2 : ¬ (s.size = 0 ∨ s.data.toList.getLast? = some 10) := fun x => by
      have := of_decide_eq_false h
      exact this ⟨h16, x⟩
    have hz0 : ¬ s.size = 0 := fun x => h2 (.inl x)
    have q1 : s.toList.isEmpty = false := by rw [bytes_empty]; exact decide_eq_false hz0
    have q2 : (s.toList == []) = false := by rw [bytes_nil]; exact decide_eq_false hz0
    have HS := Lib.hid (Tryd.strings_HasSuffix s ⟨#[10]⟩ w (by omega))
    have e2 : Lib.hasSuffix s.data.toList [10] = false := by rw [suf_one]; exact decide_eq_false (fun x => h2 (.inr x))
    rw [show (⟨#[10]⟩ : ByteArray).data.toList = [10] from rfl, e2] at HS
    clear h h2 hz0 e2
    go_enter Tryd.func47, Tryd.ntmps47
    go_wp2_with fail
    refine HS.out.mono ?_
    rintro e w1 ⟨rfl, rfl⟩
    go_wp2
    go_ret2
    exact ⟨rfl, rfl⟩
  · have hd : decide (16000 < (s.size : Int)) = true := decide_eq_true (by omega)
    go_enter Tryd.func47, Tryd.ntmps47
    go_wp2
    go_ret2
    exact ⟨rfl, rfl⟩
theorem implLines_yes (s : ByteArray) (zs : List ByteArray) (z : ByteArray) (hc : cutZ 10 s = zs ++ [z]) (w : World) (h : okT s = true) (hl : zs.length ≤ s.size) (hM : MaxP w) : Calls Tryd.prog 47 #[.string s] w fun e w' => ∃ v, e = .returned (.tuple #[v, .bool true]) ∧ ZRow w' v zs ∧ Below w.heap.size w w' := by
  obtain ⟨h16, hor⟩ := of_decide_eq_true h
  obtain ⟨m, hm⟩ := hM
  have hd : decide (16000 < (s.size : Int)) = false := decide_eq_false (by omega)
  have HR := Lib.hid (split_row s zs z hc w (by omega))
  have HP := Lib.hid (Tryd.strings_Split s (mkZ 10) m w (by omega) hm (Nat.le_refl 1))
  have hn : Lib.countB s (mkZ 10) = zs.length := by
    have := cutZ_length 10 s
    rw [hc] at this
    simp at this; omega
  have hn2 : (cutZ 10 s).length = zs.length + 1 := by rw [hc]; simp
  have HB := Lib.hid (below_al1 w (.cells ((Lib.splitB (mkZ 10) 0 (Lib.countB s (mkZ 10)) s).map Value.string).toArray 9))
  rw [hn] at HP HR HB
  obtain ⟨n, hnn⟩ : ∃ n, zs.length = n := ⟨_, rfl⟩
  obtain ⟨O, hO⟩ : ∃ O, (Obj.cells ((Lib.splitB (mkZ 10) 0 zs.length s).map Value.string).toArray 9) = O := ⟨_, rfl⟩
  rw [hO] at HP HR HB
  rw [hnn] at HP HR hl
  have e1 : IntKind.i64.wrap (((n + 1 : Nat) : Int) - 1) = (n : Int) := by
    unfold IntKind.wrap; simp [IntKind.bits, IntKind.signed]; omega
  have e3 : ((n + 1 : Nat) : Int) - 1 = (n : Int) := by omega
  clear hc h hm hn hn2 hnn hO
  by_cases hz0 : s.size = 0
  · have q1 : s.toList.isEmpty = true := by rw [bytes_empty]; exact decide_eq_true hz0
    have q2 : (s.toList == []) = true := by rw [bytes_nil]; exact decide_eq_true hz0
    clear hor hz0
    go_enter Tryd.func47, Tryd.ntmps47
    go_wp2_with fail
    refine HP.out.mono ?_
    rintro e w1 ⟨rfl, rfl⟩
    go_wp2
    go_ret2
    exact ⟨_, rfl, HR.out _, HB.out⟩
  · have q1 : s.toList.isEmpty = false := by rw [bytes_empty]; exact decide_eq_false hz0
    have q2 : (s.toList == []) = false := by rw [bytes_nil]; exact decide_eq_false hz0
    have HS := Lib.hid (Tryd.strings_HasSuffix s ⟨#[10]⟩ w (by omega))
    have e2 : Lib.hasSuffix s.data.toList [10] = true := by rw [suf_one]; exact decide_eq_true (hor.resolve_left hz0)
    rw [show (⟨#[10]⟩ : ByteArray).data.toList = [10] from rfl, e2] at HS
    clear hor hz0 e2
    go_enter Tryd.func47, Tryd.ntmps47
    go_wp2_with fail
    refine HS.out.mono ?_
    rintro e w1 ⟨rfl, rfl⟩
    go_wp2_with fail
    refine HP.out.mono ?_
    rintro e w1 ⟨rfl, rfl⟩
    go_wp2
    go_ret2
    exact ⟨_, rfl, HR.out _, HB.out⟩

set_option maxHeartbeats 1600000 in
set_option maxRecDepth 4000 in
theorem implCo_any (s : ByteArray) (w : World) (hs : s.size ≤ 1048576) (hM : MaxP w) : Calls Tryd.prog 13 #[.string s] w (CoB s w) := by
  cases hk : okT s with
  | false =>
    have HP := Lib.hid (CoB_no (w := w) (s := s) hk)
    have HC := Lib.hid (implLines_no s w hs hk)
    clear hk
    go_enter Tryd.func13, Tryd.ntmps13
    go_wp2_with fail
    refine HC.out.mono ?_
    rintro e w1 ⟨rfl, rfl⟩
    go_wp2
    go_ret3
    rw [HP.out]
    exact ⟨rfl, Below.refl _ _⟩
  | true =>
    obtain ⟨zs, z, h, hl, hz⟩ := lin_snoc s
    have HP := Lib.hid (CoB_yes (w := w) (s := s) (zs := zs) hk (by unfold lin; rw [h]; simp))
    have HC := Lib.hid (implLines_yes s zs z h w hk hl hM)
    clear h hz hk
    go_enter Tryd.func13, Tryd.ntmps13
    go_wp2_with fail
    refine HC.out.mono ?_
    rintro e w1 ⟨v, rfl, hr, hb⟩
    have B := Lib.hid hb
    rcases hr with ⟨⟨a, c, rfl⟩, rfl⟩ | ⟨b, off, cap, rfl, hm, hc⟩
    · clear hb
      go_wp2
      go_loop [7, 9, 19] (fun n x i => n = .int .i64 0 ∧ i = .int .i64 0) (fun _ _ _ => 0)
      case atStart => exact ⟨rfl, rfl⟩
      case round =>
        obtain ⟨rfl, rfl⟩ := hrel
        go_wp2
        go_ret3
        rw [HP.out]
        exact ⟨rfl, B.out⟩
    · have hbd := Lib.hid (nb_le zs)
      clear hb
      go_wp2
      go_loop [7, 9, 19] (fun n x i => ∃ k : Nat, k ≤ zs.length ∧ i = .int .i64 k ∧ n = .int .i64 (nb (zs.take k))) (fun _ _ i => zs.length - (intOf i).toNat)
      case atStart => exact ⟨0, Nat.zero_le _, rfl, rfl⟩
      case round =>
        obtain ⟨k, hk, rfl, rfl⟩ := hrel
        by_cases hlt : k < zs.length
        · have hcell := hc k hlt
          have hst := nb_step zs k hlt
          obtain ⟨x, hx⟩ : ∃ x, zs.getD k ⟨#[]⟩ = x := ⟨_, rfl⟩
          rw [hx] at hcell hst
          have hnk : nb (zs.take k) ≤ k := by have := nb_le (zs.take k); simp at this; omega
          obtain ⟨n, hn⟩ : ∃ n, nb (zs.take k) = n := ⟨_, rfl⟩
          rw [hn] at hst hnk
          have HN := Lib.hid hn
          have e1 : IntKind.i64.wrap ((n : Int) + 1) = (n : Int) + 1 := by
            unfold IntKind.wrap; simp [IntKind.bits, IntKind.signed]; omega
          cases c1 : (x.toList == [110, 111]) with
          | true =>
            have HS : Hid (nb (zs.take (k + 1)) = n + 1) := Lib.hid (by rw [hst]; unfold bad; rw [c1]; rfl)
            clear hst hx hc
            rw [HN.out]
            clear hn
            go_wp2
            go_round
            case rel => exact ⟨k + 1, by omega, by go_num, by rw [HS.out]; go_num⟩
            case measure => simp [intOf]; omega
          | false =>
            cases c2 : (x.toList == [119, 104, 97, 116]) with
            | true =>
              have HS : Hid (nb (zs.take (k + 1)) = n + 1) := Lib.hid (by rw [hst]; unfold bad; rw [c1, c2]; rfl)
              clear hst hx hc
              rw [HN.out]
              clear hn
              go_wp2
              go_round
              case rel => exact ⟨k + 1, by omega, by go_num, by rw [HS.out]; go_num⟩
              case measure => simp [intOf]; omega
            | false =>
              have HS : Hid (nb (zs.take (k + 1)) = n) := Lib.hid (by rw [hst]; unfold bad; rw [c1, c2]; rfl)
              clear hst hx hc
              rw [HN.out]
              clear hn
              go_wp2
              go_round
              case rel => exact ⟨k + 1, by omega, by go_num, by rw [HS.out]⟩
              case measure => simp [intOf]; omega
        · have e : k = zs.length := by omega
          subst e
          rw [List.take_length]
          have hq := hbd.out
          obtain ⟨n, hn⟩ : ∃ n, nb zs = n := ⟨_, rfl⟩
          rw [hn] at hq ⊢
          have HN := Lib.hid hn
          have hmx : maxLen = 9223372036854775807 := rfl
          have e1 : IntKind.i64.wrap ((zs.length : Int) - (n : Int)) = (zs.length : Int) - (n : Int) := by
            unfold IntKind.wrap; simp [IntKind.bits, IntKind.signed]; omega
          clear hn hc
          go_wp2
          go_ret3
          rw [HP.out, HN.out]
          exact ⟨rfl, B.out⟩
theorem fnExactCountOutputs_walk (s : ByteArray) (w : World) (hw : s.size ≤ maxLen) (hM : MaxP w) : Calls Tryd.prog 3 #[.string s] w (Tru w) := by
  by_cases hs : s.size ≤ 1048576
  · have hd : decide (1048576 < (s.size : Int)) = false := decide_eq_false (by omega)
    have HS := Lib.hid (fun w1 => specCo_any s w1)
    have HI := Lib.hid (fun w1 h => implCo_any s w1 hs h)
    have HT := Lib.hid hM
    unfold CoB at HS HI
    obtain ⟨b, hb⟩ : ∃ b, okT s = b := ⟨_, rfl⟩
    rw [hb] at HS HI
    obtain ⟨x, hx⟩ : ∃ x : Int, (if b then (nb (lin s) : Int) else 0) = x := ⟨_, rfl⟩
    obtain ⟨y, hy⟩ : ∃ y : Int, (if b then ((lin s).length : Int) - (nb (lin s) : Int) else 0) = y := ⟨_, rfl⟩
    rw [hx, hy] at HS HI
    clear hw hM hs hx hy hb
    go_enter Tryd.func3, Tryd.ntmps3
    go_wp2_with fail
    refine (HS.out _).mono ?_
    rintro e w1 ⟨rfl, hb⟩
    have Bw := Lib.hid hb
    have HT := Lib.hid (HT.out.below hb)
    clear hb
    go_wp2_with fail
    refine (HI.out _ HT.out).mono ?_
    rintro e w2 ⟨rfl, hb⟩
    have Bw := Lib.hid (below_step Bw.out hb)
    clear hb
    go_wp2
    go_ret
    exact Tru.below Bw.out
  · have hd : decide (1048576 < (s.size : Int)) = true := decide_eq_true (by omega)
    go_enter Tryd.func3, Tryd.ntmps3
    go_wp2
    go_ret
    exact Tru.below (Below.refl _ _)
end Go.Proofs.YthedpbdeahieaaaDoor
