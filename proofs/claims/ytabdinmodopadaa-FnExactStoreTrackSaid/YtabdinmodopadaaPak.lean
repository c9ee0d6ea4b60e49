/- Packed steps: both sides. -/
import Derived.Test.YtabdinmodopadaaAppU
namespace Go.Proofs.Ytabdinmodopadaa
open Go.RowKit
set_option linter.unusedVariables false

/-- the bytes of a number: digits of 128, all but the last marked -/
def pkN (n : Nat) : List Int := if h : n < 128 then [(n : Int)] else ((n % 128 + 128 : Nat) : Int) :: pkN (n / 128)
termination_by n
decreasing_by omega
theorem pkN_lt {n : Nat} (h : n < 128) : pkN n = [(n : Int)] := by rw [pkN, dif_pos h]
theorem pkN_ge {n : Nat} (h : ¬ n < 128) : pkN n = ((n % 128 + 128 : Nat) : Int) :: pkN (n / 128) := by rw [pkN, dif_neg h]
theorem pkN_len {n : Nat} (h : n < 2097152) : 1 ≤ (pkN n).length ∧ (pkN n).length ≤ 3 := by
  by_cases h1 : n < 128
  · rw [pkN_lt h1]; simp
  · rw [pkN_ge h1]
    by_cases h2 : n / 128 < 128
    · rw [pkN_lt h2]; simp
    · rw [pkN_ge h2, pkN_lt (n := n / 128 / 128) (by omega)]; simp
def stN (z : Int) : Nat := if z < 0 then (-2 * z - 1).toNat else (2 * z).toNat
theorem stN_lt {z : Int} (h : -227315 ≤ z ∧ z ≤ 227315) : stN z < 2097152 := by unfold stN; split <;> omega
theorem app_mid {ys zs : List Int} {x : Int} {r T : List Int} (h : ys ++ (x :: r) = T) : (ys ++ [x]) ++ r = T := by rw [← h]; simp
theorem app_len {ys r T : List Int} (h : ys ++ r = T) : ys.length ≤ T.length := by rw [← h]; simp

set_option maxHeartbeats 1600000 in
theorem specBy_any (q : Value) (n base : Nat) (zs : List Int) (w : World) (h : OwnU w base q zs) (hb : base ≤ w.heap.size) (hn : n < 2097152) (hl : (zs ++ pkN n).length ≤ 1048576) : Calls Try.prog 81 #[q, .int .i64 n] w fun e w' => ∃ v, e = .returned v ∧ OwnU w' base v (zs ++ pkN n) ∧ Below base w w' := by
  have O0 := Lib.hid h
  have HB := Lib.hid hb
  have LT := Lib.hid hl
  clear h hb hl
  generalize hT : zs ++ pkN n = T at *
  have ET := Lib.hid hT
  clear hT
  go_enter Try.func81, Try.ntmps81
  go_wp2
  go_loopw [0, 1] (fun q i wr => ∃ m : Nat, m < 2097152 ∧ i = .int .i64 m ∧ Hid (∃ ys : List Int, OwnU wr base q ys ∧ ys ++ pkN m = T) ∧ Hid (Below base w wr)) (fun _ i _ => (intOf i).toNat)
  case atStart => exact ⟨n, hn, rfl, Lib.hid ⟨zs, O0.out, ET.out⟩, Lib.hid (Below.refl _ _)⟩
  case round =>
    obtain ⟨m, hm, rfl, HO, B2⟩ := hrel
    obtain ⟨ys, O2, HM⟩ := HO.out
    have O2 := Lib.hid O2
    have HM := Lib.hid HM
    have QL := Lib.hid (show ys.length ≤ 1048576 from Nat.le_trans (app_len HM.out) LT.out)
    have hs2 := Lib.hid (Nat.le_trans HB.out B2.out.size)
    have hm0 : (0 : Int) ≤ (m : Int) := by omega
    clear HO
    by_cases hlt : m < 128
    · have hlt' : ¬ (128 : Int) ≤ (m : Int) := by omega
      have f0 : decide ((128 : Int) ≤ (m : Int)) = false := by simp; omega
      have W := Lib.hid (show IntKind.u8.wrap (m : Int) = (m : Int) by (unfold IntKind.wrap; simp [IntKind.bits, IntKind.signed]; omega))
      have E := Lib.hid (show ys ++ [(m : Int)] = T by rw [← pkN_lt hlt]; exact HM.out)
      have w8 := W.out
      go_wp2_with (at_builtin; refine wpList_appU rfl _ _ rfl base _ ys rfl (O2.out.al _) _ _ (m : Int) rfl ((World.cell?_alloc_at _ _ _ _ (by simp)).trans rfl) QL.out (by have := hs2.out; simp; omega) ?_; intro v' w3 hown' hb; have O3 := Lib.hid hown'; have B3 := Lib.hid ((B2.out.alloc hs2.out _).trans hb); clear hown' hb)
      go_ret
      exact ⟨_, rfl, by rw [← E.out]; exact O3.out, B3.out⟩
    · have f0 : decide ((128 : Int) ≤ (m : Int)) = true := by simp; omega
      have hgt : (128 : Int) ≤ (m : Int) := by omega
      have E := Lib.hid (show (ys ++ [((m % 128 + 128 : Nat) : Int)]) ++ pkN (m / 128) = T from app_mid (zs := ys) (by rw [← pkN_ge hlt]; exact HM.out))
      have R := Lib.hid (show (m : Int).tmod 128 = ((m % 128 : Nat) : Int) by rw [Int.tmod_eq_emod_of_nonneg hm0]; omega)
      have W := Lib.hid (show IntKind.u8.wrap (((m % 128 : Nat) : Int) + 128) = ((m % 128 + 128 : Nat) : Int) by (unfold IntKind.wrap; simp [IntKind.bits, IntKind.signed]; omega))
      have r8 := R.out
      have w8 := W.out
      have hr0 : (0 : Int) ≤ ((m % 128 : Nat) : Int) := by omega
      have hr1 : ((m % 128 : Nat) : Int) < 128 := by omega
      have d8 : Hid ((m : Int).tdiv 128 = ((m / 128 : Nat) : Int)) := Lib.hid (by rw [Int.tdiv_eq_ediv_of_nonneg hm0]; omega)
      have d8 := d8.out
      go_wp2_with (at_builtin; refine wpList_appU rfl _ _ rfl base _ ys rfl (O2.out.al _) _ _ (((m % 128 + 128 : Nat) : Int)) rfl ((World.cell?_alloc_at _ _ _ _ (by simp)).trans (by first | rfl | simp [r8, w8])) QL.out (by have := hs2.out; simp; omega) ?_; intro v' w3 hown' hb; have O3 := Lib.hid hown'; have B3 := Lib.hid ((B2.out.alloc hs2.out _).trans hb); clear hown' hb)
      go_roundw
      case rel => exact ⟨m / 128, by omega, by go_num, Lib.hid ⟨_, O3.out, E.out⟩, B3⟩
      case measure => simp [intOf]; omega

set_option maxHeartbeats 1600000 in
theorem implSt_any (q : Value) (z : Int) (base : Nat) (zs : List Int) (w : World) (h : OwnU w base q zs) (hb : base ≤ w.heap.size) (hz : -227315 ≤ z ∧ z ≤ 227315) (hl : (zs ++ pkN (stN z)).length ≤ 1048576) : Calls Try.prog 61 #[q, .int .i64 z] w fun e w' => ∃ v, e = .returned v ∧ OwnU w' base v (zs ++ pkN (stN z)) ∧ Below base w w' := by
  have O0 := Lib.hid h
  have HB := Lib.hid hb
  have LT := Lib.hid hl
  have hn := stN_lt hz
  clear h hb hl
  by_cases g : z < 0
  · have NE := Lib.hid (show -2 * z - 1 = ((stN z : Nat) : Int) by unfold stN; rw [if_pos g]; omega)
    generalize stN z = n at *
    generalize hT : zs ++ pkN n = T at *
    have ET := Lib.hid hT
    clear hT
    go_enter Try.func61, Try.ntmps61
    go_wp2
    go_loopw [0, 5] (fun q i wr => ∃ m : Nat, m < 2097152 ∧ i = .int .i64 m ∧ Hid (∃ ys : List Int, OwnU wr base q ys ∧ ys ++ pkN m = T) ∧ Hid (Below base w wr)) (fun _ i _ => (intOf i).toNat)
    case atStart => exact ⟨n, hn, (by first | rfl | (rw [NE.out]) | (rw [← NE.out]; go_num)), Lib.hid ⟨zs, O0.out, ET.out⟩, Lib.hid (Below.refl _ _)⟩
    case round =>
      obtain ⟨m, hm, rfl, HO, B2⟩ := hrel
      obtain ⟨ys, O2, HM⟩ := HO.out
      have O2 := Lib.hid O2
      have HM := Lib.hid HM
      have QL := Lib.hid (show ys.length ≤ 1048576 from Nat.le_trans (app_len HM.out) LT.out)
      have hs2 := Lib.hid (Nat.le_trans HB.out B2.out.size)
      have hm0 : (0 : Int) ≤ (m : Int) := by omega
      clear HO
      by_cases hlt : m < 128
      · have hlt' : ¬ (128 : Int) ≤ (m : Int) := by omega
        have f0 : decide ((128 : Int) ≤ (m : Int)) = false := by simp; omega
        have W := Lib.hid (show IntKind.u8.wrap (m : Int) = (m : Int) by (unfold IntKind.wrap; simp [IntKind.bits, IntKind.signed]; omega))
        have E := Lib.hid (show ys ++ [(m : Int)] = T by rw [← pkN_lt hlt]; exact HM.out)
        have w8 := W.out
        go_wp2_with (at_builtin; refine wpList_appU rfl _ _ rfl base _ ys rfl (O2.out.al _) _ _ (m : Int) rfl ((World.cell?_alloc_at _ _ _ _ (by simp)).trans rfl) QL.out (by have := hs2.out; simp; omega) ?_; intro v' w3 hown' hb; have O3 := Lib.hid hown'; have B3 := Lib.hid ((B2.out.alloc hs2.out _).trans hb); clear hown' hb)
        go_ret
        exact ⟨_, rfl, by rw [← E.out]; exact O3.out, B3.out⟩
      · have f0 : decide ((128 : Int) ≤ (m : Int)) = true := by simp; omega
        have hgt : (128 : Int) ≤ (m : Int) := by omega
        have E := Lib.hid (show (ys ++ [((m % 128 + 128 : Nat) : Int)]) ++ pkN (m / 128) = T from app_mid (zs := ys) (by rw [← pkN_ge hlt]; exact HM.out))
        have R := Lib.hid (show (m : Int).tmod 128 = ((m % 128 : Nat) : Int) by rw [Int.tmod_eq_emod_of_nonneg hm0]; omega)
        have W := Lib.hid (show IntKind.u8.wrap (((m % 128 : Nat) : Int) + 128) = ((m % 128 + 128 : Nat) : Int) by (unfold IntKind.wrap; simp [IntKind.bits, IntKind.signed]; omega))
        have r8 := R.out
        have w8 := W.out
        have hr0 : (0 : Int) ≤ ((m % 128 : Nat) : Int) := by omega
        have hr1 : ((m % 128 : Nat) : Int) < 128 := by omega
        skip
        go_wp2_with (at_builtin; refine wpList_appU rfl _ _ rfl base _ ys rfl (O2.out.al _) _ _ (((m % 128 + 128 : Nat) : Int)) rfl ((World.cell?_alloc_at _ _ _ _ (by simp)).trans (by first | rfl | simp [r8, w8])) QL.out (by have := hs2.out; simp; omega) ?_; intro v' w3 hown' hb; have O3 := Lib.hid hown'; have B3 := Lib.hid ((B2.out.alloc hs2.out _).trans hb); clear hown' hb)
        go_roundw
        case rel => exact ⟨m / 128, by omega, by go_num, Lib.hid ⟨_, O3.out, E.out⟩, B3⟩
        case measure => simp [intOf]; omega
  · have NE := Lib.hid (show 2 * z = ((stN z : Nat) : Int) by unfold stN; rw [if_neg g]; omega)
    generalize stN z = n at *
    generalize hT : zs ++ pkN n = T at *
    have ET := Lib.hid hT
    clear hT
    go_enter Try.func61, Try.ntmps61
    go_wp2
    go_loopw [0, 5] (fun q i wr => ∃ m : Nat, m < 2097152 ∧ i = .int .i64 m ∧ Hid (∃ ys : List Int, OwnU wr base q ys ∧ ys ++ pkN m = T) ∧ Hid (Below base w wr)) (fun _ i _ => (intOf i).toNat)
    case atStart => exact ⟨n, hn, (by first | rfl | (rw [NE.out]) | (rw [← NE.out]; go_num)), Lib.hid ⟨zs, O0.out, ET.out⟩, Lib.hid (Below.refl _ _)⟩
    case round =>
      obtain ⟨m, hm, rfl, HO, B2⟩ := hrel
      obtain ⟨ys, O2, HM⟩ := HO.out
      have O2 := Lib.hid O2
      have HM := Lib.hid HM
      have QL := Lib.hid (show ys.length ≤ 1048576 from Nat.le_trans (app_len HM.out) LT.out)
      have hs2 := Lib.hid (Nat.le_trans HB.out B2.out.size)
      have hm0 : (0 : Int) ≤ (m : Int) := by omega
      clear HO
      by_cases hlt : m < 128
      · have hlt' : ¬ (128 : Int) ≤ (m : Int) := by omega
        have f0 : decide ((128 : Int) ≤ (m : Int)) = false := by simp; omega
        have W := Lib.hid (show IntKind.u8.wrap (m : Int) = (m : Int) by (unfold IntKind.wrap; simp [IntKind.bits, IntKind.signed]; omega))
        have E := Lib.hid (show ys ++ [(m : Int)] = T by rw [← pkN_lt hlt]; exact HM.out)
        have w8 := W.out
        go_wp2_with (at_builtin; refine wpList_appU rfl _ _ rfl base _ ys rfl (O2.out.al _) _ _ (m : Int) rfl ((World.cell?_alloc_at _ _ _ _ (by simp)).trans rfl) QL.out (by have := hs2.out; simp; omega) ?_; intro v' w3 hown' hb; have O3 := Lib.hid hown'; have B3 := Lib.hid ((B2.out.alloc hs2.out _).trans hb); clear hown' hb)
        go_ret
        exact ⟨_, rfl, by rw [← E.out]; exact O3.out, B3.out⟩
      · have f0 : decide ((128 : Int) ≤ (m : Int)) = true := by simp; omega
        have hgt : (128 : Int) ≤ (m : Int) := by omega
        have E := Lib.hid (show (ys ++ [((m % 128 + 128 : Nat) : Int)]) ++ pkN (m / 128) = T from app_mid (zs := ys) (by rw [← pkN_ge hlt]; exact HM.out))
        have R := Lib.hid (show (m : Int).tmod 128 = ((m % 128 : Nat) : Int) by rw [Int.tmod_eq_emod_of_nonneg hm0]; omega)
        have W := Lib.hid (show IntKind.u8.wrap (((m % 128 : Nat) : Int) + 128) = ((m % 128 + 128 : Nat) : Int) by (unfold IntKind.wrap; simp [IntKind.bits, IntKind.signed]; omega))
        have r8 := R.out
        have w8 := W.out
        have hr0 : (0 : Int) ≤ ((m % 128 : Nat) : Int) := by omega
        have hr1 : ((m % 128 : Nat) : Int) < 128 := by omega
        skip
        go_wp2_with (at_builtin; refine wpList_appU rfl _ _ rfl base _ ys rfl (O2.out.al _) _ _ (((m % 128 + 128 : Nat) : Int)) rfl ((World.cell?_alloc_at _ _ _ _ (by simp)).trans (by first | rfl | simp [r8, w8])) QL.out (by have := hs2.out; simp; omega) ?_; intro v' w3 hown' hb; have O3 := Lib.hid hown'; have B3 := Lib.hid ((B2.out.alloc hs2.out _).trans hb); clear hown' hb)
        go_roundw
        case rel => exact ⟨m / 128, by omega, by go_num, Lib.hid ⟨_, O3.out, E.out⟩, B3⟩
        case measure => simp [intOf]; omega

end Go.Proofs.Ytabdinmodopadaa
