/- Journals: the specification's checks. -/
import Derived.Test.YthedpbdeahieaaaDoorJoS
namespace Go.Proofs.YthedpbdeahieaaaDoor
open Go.RowKit
set_option linter.unusedVariables false

set_option maxHeartbeats 3200000 in
set_option maxRecDepth 8000 in
theorem specJo_any (v : Value) (zs : List ByteArray) (w : World) (hr : ZRow w v zs) (hl : zs.length ≤ 1048576) (hz : ∀ k, k < zs.length → (zAt zs k).size ≤ 1048576) : Calls Tryd.prog 15 #[v] w (JoB zs w) := by
  have HR := Lib.hid hr
  have HZ := Lib.hid hz
  have HJN := Lib.hid (fun (h : joOk zs = false) => JoB_no (w := w) h)
  have HJY := Lib.hid (fun (h : joOk zs = true) => JoB_yes (w := w) h)
  have HS := Lib.hid (fun (hj : (jrn zs zs.length).size ≤ 1000000000) => specJr_any v zs w hr hl hz hj)
  obtain ⟨a, cap, rfl⟩ := hr.shape
  clear hr hz
  obtain ⟨n, hn⟩ : ∃ n, zs.length = n := ⟨_, rfl⟩
  have HN := Lib.hid hn
  rw [hn] at hl HS ⊢
  have CL : Hid (∀ k, k < n → ∃ b off, a = some ⟨b, off, none⟩ ∧ w.cell? ⟨b, off + k, none⟩ = some (.string (zAt zs k))) := Lib.hid (fun k hk => by
    obtain ⟨b, off, c, e, hc⟩ := HR.out.cells (by omega)
    refine ⟨b, off, by cases e; rfl, hc k (by omega)⟩)
  clear hn HR
  go_enter Tryd.func15, Tryd.ntmps15
  go_wp2
  go_loop [4, 5, 6] (fun t i _ => ∃ k : Nat, k ≤ n ∧ i = .int .i64 k ∧ t = .int .i64 (tot zs k) ∧ Hid (tot zs k ≤ 16000) ∧ Hid (∀ j, j < k → nlIn (zAt zs j) = false)) (fun _ i _ => n - (intOf i).toNat)
  case atStart => exact ⟨0, Nat.zero_le _, rfl, rfl, Lib.hid (by show (0 : Nat) ≤ _; omega), Lib.hid (fun j h => by omega)⟩
  case round =>
    obtain ⟨k, hk, rfl, rfl, ht, hall⟩ := hrel
    by_cases hlt : k < n
    · obtain ⟨b, off, ha, hcell⟩ := CL.out k hlt
      subst ha
      have hi0 : (0 : Int) ≤ (k : Int) := by omega
      have hi1 : (k : Int) < (n : Int) := by omega
      have s2 := HZ.out k (by have := HN.out; omega)
      have s3 := ht.out
      have HT1 : Hid (tot zs (k + 1) = tot zs k + ((zAt zs k).size + 3)) := Lib.hid rfl
      have HLo : Hid (16000 < tot zs (k + 1) → joOk zs = false) := Lib.hid (fun h => jo_long (k := k + 1) (by have := HN.out; omega) (by have := (tot_jrn zs (k + 1)).1; omega))
      have HNl : Hid (∀ j, j < (zAt zs k).size → byteAt (zAt zs k) j = 10 → joOk zs = false) := Lib.hid (fun j hj h => jo_nl (k := k) (by have := HN.out; omega) (nl_yes hj h))
      have HAl : Hid ((∀ j, j < (zAt zs k).size → byteAt (zAt zs k) j ≠ 10) → ∀ j, j < k + 1 → nlIn (zAt zs j) = false) := Lib.hid (fun h j hj => by
        by_cases e : j = k
        · rw [e]; exact nl_no h
        · exact hall.out j (by omega))
      obtain ⟨z, hzz⟩ : ∃ z, zAt zs k = z := ⟨_, rfl⟩
      obtain ⟨t, htt⟩ : ∃ t, tot zs k = t := ⟨_, rfl⟩
      rw [hzz] at hcell s2 HT1 HNl HAl
      rw [htt] at s3 HT1 ⊢
      clear hzz htt ht hall
      have e1 : IntKind.i64.wrap ((z.size : Int) + 3) = (z.size : Int) + 3 := by unfold IntKind.wrap; simp [IntKind.bits, IntKind.signed]; omega
      have e2 : IntKind.i64.wrap ((t : Int) + ((z.size : Int) + 3)) = (t : Int) + ((z.size : Int) + 3) := by unfold IntKind.wrap; simp [IntKind.bits, IntKind.signed]; omega
      by_cases hbig : 16000 < t + (z.size + 3)
      · have hdd : decide (16000 < (t : Int) + ((z.size : Int) + 3)) = true := decide_eq_true (by omega)
        have HRt := Lib.hid (HJN.out (HLo.out (by rw [HT1.out]; exact hbig)))
        clear HNl HAl HLo
        go_wp2
        go_ret2
        rw [HRt.out]
        exact ⟨rfl, Below.refl _ _⟩
      · have hdd : decide (16000 < (t : Int) + ((z.size : Int) + 3)) = false := decide_eq_false (by omega)
        have HT2 : Hid (tot zs (k + 1) ≤ 16000) := Lib.hid (by rw [HT1.out]; omega)
        clear HLo
        go_wp2
        go_loop [6] (fun q => ∃ j : Nat, j ≤ z.size ∧ q = .int .i64 j ∧ Hid (∀ i, i < j → byteAt z i ≠ 10)) (fun q => z.size - (intOf q).toNat)
        case atStart => exact ⟨0, Nat.zero_le _, rfl, Lib.hid (fun j h => by omega)⟩
        case round =>
          obtain ⟨j, hj, rfl, hnn⟩ := hrel
          by_cases hjl : j < z.size
          · have hbe := byteAt_eq z j hjl
            have hbd := byteAt_bd z j
            by_cases h10 : byteAt z j = 10
            · have HRt := Lib.hid (HJN.out (HNl.out j hjl h10))
              have q1 : (byteAt z j == 10) = true := by simp [h10]
              clear HNl HAl h10
              go_wp2
              go_ret2
              rw [HRt.out]
              exact ⟨rfl, Below.refl _ _⟩
            · have q1 : (byteAt z j == 10) = false := by simp [h10]
              have HA3 : Hid (∀ i, i < j + 1 → byteAt z i ≠ 10) := Lib.hid (fun i hi => by
                by_cases e : i = j
                · rw [e]; exact h10
                · exact hnn.out i (by omega))
              clear h10
              go_wp2
              go_round
              case rel => exact ⟨j + 1, by omega, by go_num, HA3⟩
              case measure => simp [intOf]; omega
          · have HA4 := Lib.hid (HAl.out (fun i hi => hnn.out i (by omega)))
            clear HAl HNl
            go_wp2
            go_round
            case rel => exact ⟨k + 1, by omega, by go_num, by rw [HT1.out]; go_num, HT2, HA4⟩
            case measure => simp [intOf]; omega
    · have e : k = n := by omega
      subst e
      have htj := tot_jrn zs k
      have hjs : (jrn zs k).size ≤ 1000000000 := by have := ht.out; omega
      have HSx := Lib.hid (HS.out hjs)
      have HYs : Hid ((jrn zs k).size ≤ 16000 → joOk zs = true) := Lib.hid (fun h => jo_ok (by rw [HN.out]; exact h) (fun j hj => hall.out j (by have := HN.out; omega)))
      have HNo : Hid (16000 < (jrn zs k).size → joOk zs = false) := Lib.hid (fun h => jo_long (k := k) (by have := HN.out; omega) h)
      have HJY2 := Lib.hid (fun h => HJY.out (HYs.out h))
      have HJN2 := Lib.hid (fun h => HJN.out (HNo.out h))
      rw [HN.out] at HJY2
      obtain ⟨J, hJ⟩ : ∃ J, jrn zs k = J := ⟨_, rfl⟩
      rw [hJ] at HSx HJY2 HJN2
      clear hJ htj hjs HYs HNo
      go_wp2_with fail
      refine HSx.out.mono ?_
      rintro e w1 ⟨rfl, hb⟩
      have B := Lib.hid hb
      clear hb
      by_cases hbig : 16000 < J.size
      · have hdd : decide (16000 < (J.size : Int)) = true := decide_eq_true (by omega)
        have HRt := Lib.hid (HJN2.out hbig)
        go_wp2
        go_ret2
        rw [HRt.out]
        exact ⟨rfl, B.out⟩
      · have hdd : decide (16000 < (J.size : Int)) = false := decide_eq_false (by omega)
        have HRt := Lib.hid (HJY2.out (by omega))
        go_wp2
        go_ret2
        rw [HRt.out]
        exact ⟨rfl, B.out⟩
end Go.Proofs.YthedpbdeahieaaaDoor
