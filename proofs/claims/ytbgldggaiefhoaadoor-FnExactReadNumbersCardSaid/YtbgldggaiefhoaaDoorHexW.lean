/- A number as eight hexadecimal digits: both sides. -/
import Derived.Test.YtbgldggaiefhoaaDoorFmt16
import Derived.Test.YtbgldggaiefhoaaDoorShelf
import Derived.Test.YtbgldggaiefhoaaDoorNum
import Derived.Test.YtbgldggaiefhoaaDoorExt
namespace Go.Proofs.YtbgldggaiefhoaaDoor
open Go.RowKit
set_option linter.unusedVariables false

/-- the bits of a number, as the document tells them -/
def hbit (a : Nat) : Nat := if nn .f32 a then 2143289344 else a
theorem hbit_lt {a : Nat} (h : (Lit.float .f32 a).wf = true) : hbit a < 4294967296 := by
  have := wf32 h
  unfold hbit; split <;> omega
theorem specHb_any (a : Nat) (w : World) (wa : (Lit.float .f32 a).wf = true) :
    Calls Tryd.prog 96 #[.float .f32 a] w fun e w' => e = .returned (.int .i64 (hbit a)) ∧ w = w' := by
  have ho := order_self (k := .f32) (x := a)
  have hl := wf32 wa
  cases hn : nn .f32 a
  · rw [hn] at ho; simp only [Bool.false_eq_true, if_false] at ho
    go_enter Tryd.func96, Tryd.ntmps96
    go_wp2
    go_ret
    exact ⟨by simp [hbit, hn], rfl⟩
  · rw [hn] at ho; simp only [if_true] at ho
    go_enter Tryd.func96, Tryd.ntmps96
    go_wp2
    go_ret
    exact ⟨by simp [hbit, hn], rfl⟩
theorem implHb_any (a : Nat) (w : World) (wa : (Lit.float .f32 a).wf = true) :
    Calls Tryd.prog 100 #[.float .f32 a] w fun e w' => e = .returned (.int .i64 (hbit a)) ∧ w = w' := by
  have ho := order_self (k := .f32) (x := a)
  have hl := wf32 wa
  cases hn : nn .f32 a
  · rw [hn] at ho; simp only [Bool.false_eq_true, if_false] at ho
    go_enter Tryd.func100, Tryd.ntmps100
    go_wp2
    go_ret
    exact ⟨by simp [hbit, hn], rfl⟩
  · rw [hn] at ho; simp only [if_true] at ho
    go_enter Tryd.func100, Tryd.ntmps100
    go_wp2
    go_ret
    exact ⟨by simp [hbit, hn], rfl⟩
def hexZ (a : Nat) : ByteArray := strOfNums (hexL (hbit a))
theorem hexZ_size (a : Nat) : (hexZ a).size = 8 := by unfold hexZ; rw [strOfNums_size, hexL_len]
theorem rep_str (n : Nat) : (⟨(Lib.repeatL [48] n).toArray⟩ : ByteArray) = strOfNums (List.replicate n 48) := by
  unfold strOfNums
  congr 2
  induction n with
  | zero => rfl
  | succ n ih => rw [List.replicate_succ, List.map_cons, ← ih]; rfl

set_option maxHeartbeats 800000 in
theorem implHex_any (a : Nat) (w : World) (wa : (Lit.float .f32 a).wf = true) (ht : Tabs w) : Calls Tryd.prog 119 #[.float .f32 a] w fun e w' => e = .returned (.tuple #[.string (hexZ a), .bool true]) ∧ Below w.heap.size w w' := by
  have HB := Lib.hid (implHb_any a w wa)
  have HF := Lib.hid (fmt16_any (hbit a) w (hbit_lt wa) ht)
  have HZ := Lib.hid (fun k (hk : k ≤ 7) (h : hbit a < 16 ^ (k + 1)) => show strOfNums (List.replicate (7 - k) 48) ++ strOfNums (hexK (hbit a) k) = hexZ a by
    unfold hexZ; rw [hexL_pad hk h, str_app, show 8 - (k + 1) = 7 - k from by omega])
  have HR := Lib.hid (fun n (w1 : World) (hn : n ≤ 8) => Tryd.strings_Repeat ⟨#[48]⟩ n w1 (by omega) (by show 1 * n ≤ _; omega))
  clear wa ht
  generalize hbit a = u at *
  generalize hexZ a = z at *
  go_enter Tryd.func119, Tryd.ntmps119
  go_wp2_with fail
  refine HB.out.mono ?_
  rintro e w1 ⟨rfl, rfl⟩
  go_wp2_with fail
  refine HF.out.mono ?_
  rintro e w1 ⟨k, hk, hK, rfl, hb⟩
  have B := Lib.hid hb
  have HZ2 := Lib.hid (HZ.out k hk hK)
  have HR2 := Lib.hid (HR.out (7 - k) w1 (by omega))
  have hsz : (strOfNums (hexK u k)).size = k + 1 := by rw [strOfNums_size, hexK_len]
  have hrs := strOfNums_size (List.replicate (7 - k) (48 : Int))
  rw [List.length_replicate] at hrs
  clear hb hK HZ HR
  generalize strOfNums (hexK u k) = t at *
  have E1 : 8 - ((t.size : Nat) : Int) = ((7 - k : Nat) : Int) := by omega
  have HE := Lib.hid E1
  clear E1
  have ht2 : t.size ≤ 8 := by omega
  clear hsz
  go_wp2_with fail
  rw [HE.out]
  refine HR2.out.mono ?_
  rw [rep_str]
  generalize strOfNums (List.replicate (7 - k) 48) = s at *
  rintro e w2 ⟨rfl, hb⟩
  have B2 := Lib.hid (below_step B.out hb)
  clear hb
  have nn : ¬ (9223372036854775807 < s.size + t.size) := by omega
  go_wp2
  go_ret2
  exact ⟨by rw [HZ2.out]; rfl, B2.out⟩

theorem dig16_at (d : Nat) (h16 : d < 16) (h : d < ((⟨#[48, 49, 50, 51, 52, 53, 54, 55, 56, 57, 97, 98, 99, 100, 101, 102]⟩ : ByteArray)).size) : ((((⟨#[48, 49, 50, 51, 52, 53, 54, 55, 56, 57, 97, 98, 99, 100, 101, 102]⟩ : ByteArray))[d]'h).toNat : Int) = hd d := by
  match d, h16 with
  | 0, _ => rfl
  | 1, _ => rfl
  | 2, _ => rfl
  | 3, _ => rfl
  | 4, _ => rfl
  | 5, _ => rfl
  | 6, _ => rfl
  | 7, _ => rfl
  | 8, _ => rfl
  | 9, _ => rfl
  | 10, _ => rfl
  | 11, _ => rfl
  | 12, _ => rfl
  | 13, _ => rfl
  | 14, _ => rfl
  | 15, _ => rfl
  | d + 16, h => omega
theorem nib (u m : Nat) (hu : u < 4294967296) (hm : m < 8) : bits BinOp.and IntKind.i64 ((u : Int) / 2 ^ (28 - 4 * m)) 15 = ((u / 16 ^ (7 - m) % 16 : Nat) : Int) := by
  have e1 : 2 ^ (28 - 4 * m) = 16 ^ (7 - m) := by
    rw [show 28 - 4 * m = 4 * (7 - m) from by omega, Nat.pow_mul]
  have e2 : (u : Int) / 2 ^ (28 - 4 * m) = ((u / 16 ^ (7 - m) : Nat) : Int) := by
    rw [← e1]; simp
  have hle := Nat.div_le_self u (16 ^ (7 - m))
  rw [e2, show (15 : Int) = ((15 : Nat) : Int) from rfl, i64_and_nat _ _ (by omega) (by decide)]
  rw [show (u / 16 ^ (7 - m)) &&& 15 = u / 16 ^ (7 - m) % 16 from Nat.and_two_pow_sub_one_eq_mod _ 4]
set_option maxHeartbeats 1600000 in
set_option maxRecDepth 20000 in
theorem specHex_any (a : Nat) (w : World) (wa : (Lit.float .f32 a).wf = true) : Calls Tryd.prog 114 #[.float .f32 a] w fun e w' => e = .returned (.string (hexZ a)) ∧ Below w.heap.size w w' := by
  have HB := Lib.hid (specHb_any a w wa)
  have HU := Lib.hid (hbit_lt wa)
  have O0 := Lib.hid (OwnU.empty w w.heap.size (Nat.le_refl _))
  have B0 := Lib.hid (below_al1 w (.cells #[] 5))
  unfold hexZ
  clear wa
  generalize hbit a = u at *
  go_enter Tryd.func114, Tryd.ntmps114
  go_wp2_with fail
  refine HB.out.mono ?_
  rintro e w1 ⟨rfl, rfl⟩
  go_wp2
  go_loopw [4, 5] (fun v i wr => ∃ m : Nat, m ≤ 8 ∧ i = .int .i64 (28 - 4 * (m : Int)) ∧ Hid (OwnU wr w.heap.size v ((hexL u).take m)) ∧ Hid (Below w.heap.size w wr)) (fun _ i _ => (intOf i + 4).toNat)
  case atStart => exact ⟨0, by omega, rfl, O0, B0⟩
  case round =>
    obtain ⟨m, hm, rfl, ho, hb⟩ := hrel
    by_cases hlt : m < 8
    · have hm4 : 4 * (m : Int) ≤ 28 := by omega
      have A1 := nib u m HU.out hlt
      have HD : Hid ((hexL u).take m ++ [hd (u / 16 ^ (7 - m) % 16)] = (hexL u).take (m + 1)) := Lib.hid (hexL_take u m hlt).symm
      obtain ⟨d, hd16, hde⟩ : ∃ d, d < 16 ∧ u / 16 ^ (7 - m) % 16 = d := ⟨_, Nat.mod_lt _ (by decide), rfl⟩
      rw [hde] at A1 HD
      have D1 := dig16_at d hd16 hd16
      have B2 := Lib.hid (hb.out.alloc (hb.out.size) (.cells #[.int .u8 (hd d)] 5))
      have hl : ((hexL u).take m).length ≤ 8 := by rw [List.length_take]; omega
      have HL := Lib.hid hl
      have HM := Lib.hid (show (28 : Int) - 4 * m - 4 = 28 - 4 * ((m + 1 : Nat) : Int) by omega)
      clear hde hl
      go_wp2_with (at_builtin; refine wpList_appU rfl _ _ rfl w.heap.size _ _ rfl (ho.out.al _) wr.heap.size 1 (hd d) rfl ((World.cell?_alloc_at _ _ _ _ (by simp)).trans rfl) (by have := HL.out; omega) (B2.out.size) ?_; intro v' w' hO' hB')
      go_roundw
      case rel => exact ⟨m + 1, by omega, by rw [HM.out], Lib.hid (by rw [← HD.out]; exact hO'), Lib.hid (B2.out.trans hB')⟩
      case measure => simp [intOf]; omega
    · have e : m = 8 := by omega
      subst e
      have ht : (hexL u).take 8 = hexL u := by rw [List.take_of_length_le]; rw [hexL_len]; exact Nat.le_refl _
      rw [ht] at ho
      have hlen := hexL_len u
      obtain ⟨g, cap, rfl⟩ := ho.out.openS (by omega)
      have hcv := run_convert_bytes_arg (P := Tryd.prog) wr 150 5 Tryd.underlying150 Tryd.underlying5 g 0 (hexL u).length cap (hexL u) rfl (fun i hi => by rw [Nat.zero_add]; exact ho.out.cellAt i hi) 9 Tryd.underlying9
      clear ht hlen
      go_wp2
      go_ret
      exact ⟨rfl, hb.out⟩
end Go.Proofs.YtbgldggaiefhoaaDoor
