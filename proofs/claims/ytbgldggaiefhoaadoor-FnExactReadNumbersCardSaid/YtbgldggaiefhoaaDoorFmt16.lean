/- strconv.FormatInt at base 16: the library's text, walked. -/
import Derived.Test.YtbgldggaiefhoaaDoorHexM
import Derived.Test.YtbgldggaiefhoaaDoorTabs
import Derived.Test.YtbgldggaiefhoaaDoorCatU
import Derived.Test.YtbgldggaiefhoaaDoorRun
namespace Go.Proofs.YtbgldggaiefhoaaDoor
open Go.RowKit
set_option linter.unusedVariables false

theorem tz64_any (w : World) (h : w.cell? ⟨8, 15, none⟩ = some (.int .u8 4)) : Calls Tryd.prog 193 #[.int .u64 16] w fun e w' => e = .returned (.int .i64 4) ∧ w = w' := by
  have h1 : bits BinOp.and IntKind.u64 16 (IntKind.u64.wrap (-16)) = 16 := by decide +kernel
  have h2 : IntKind.u64.wrap (16 * 285870213051353865) = 4573923408821661840 := by decide +kernel
  go_enter Tryd.func193, Tryd.ntmps193
  go_wp2
  go_ret
  exact ⟨rfl, rfl⟩
theorem pow2_any (w : World) : Calls Tryd.prog 180 #[.int .i64 16] w fun e w' => e = .returned (.bool true) ∧ w = w' := by
  go_enter Tryd.func180, Tryd.ntmps180
  go_wp2
  go_ret
  exact ⟨rfl, rfl⟩
theorem tz_any (w : World) (h : w.cell? ⟨8, 15, none⟩ = some (.int .u8 4)) : Calls Tryd.prog 181 #[.int .u64 16] w fun e w' => e = .returned (.int .i64 4) ∧ w = w' := by
  go_enter Tryd.func181, Tryd.ntmps181
  go_wp2_with (go_at_call 193; refine (tz64_any _ h).mono ?_; rintro e w1 ⟨rfl, rfl⟩)
  go_ret
  exact ⟨rfl, rfl⟩
theorem u64_and15 (a : Nat) (ha : a < 18446744073709551616) : bits .and .u64 (a : Int) 15 = ((a % 16 : Nat) : Int) := by
  show IntKind.u64.wrap ((BitVec.ofInt 64 (a : Int) &&& BitVec.ofInt 64 ((15 : Nat) : Int)).toNat : Int) = _
  have e1 : (BitVec.ofInt 64 (a : Int)).toNat = a := by rw [BitVec.toNat_ofInt]; omega
  have e2 : (BitVec.ofInt 64 ((15 : Nat) : Int)).toNat = 15 := by decide +kernel
  rw [BitVec.toNat_and, e1, e2, show a &&& 15 = a % 16 from Nat.and_two_pow_sub_one_eq_mod a 4]
  unfold IntKind.wrap
  simp [IntKind.bits, IntKind.signed]
  omega
/-- the table of digits, as Go writes it -/
abbrev digZ : ByteArray := ⟨#[48, 49, 50, 51, 52, 53, 54, 55, 56, 57, 97, 98, 99, 100, 101, 102, 103, 104, 105, 106, 107, 108, 109, 110, 111, 112, 113, 114, 115, 116, 117, 118, 119, 120, 121, 122]⟩
theorem dig_at (d : Nat) (h16 : d < 16) (h : d < ((⟨#[48, 49, 50, 51, 52, 53, 54, 55, 56, 57, 97, 98, 99, 100, 101, 102, 103, 104, 105, 106, 107, 108, 109, 110, 111, 112, 113, 114, 115, 116, 117, 118, 119, 120, 121, 122]⟩ : ByteArray)).size) : ((((⟨#[48, 49, 50, 51, 52, 53, 54, 55, 56, 57, 97, 98, 99, 100, 101, 102, 103, 104, 105, 106, 107, 108, 109, 110, 111, 112, 113, 114, 115, 116, 117, 118, 119, 120, 121, 122]⟩ : ByteArray))[d]'h).toNat : Int) = hd d := by
  match d, h16 with
  | 0, _ => rfl
  | 1, _ => rfl
  | 2, _ => rfl
  | 3, _ => rfl
  | 4, _ => rfl
  | 5, _ => rfl
  | 6, _ => rfl
  | 7, _ => rfl
  | 8, _ => rfl
  | 9, _ => rfl
  | 10, _ => rfl
  | 11, _ => rfl
  | 12, _ => rfl
  | 13, _ => rfl
  | 14, _ => rfl
  | 15, _ => rfl
  | d + 16, h => omega
/-- the array while the loop runs -/
def rowf (u k j : Nat) : Value := .int .u8 (if 65 - k ≤ j then hx u (64 - j) else 0)
theorem rowf_step {u k : Nat} (hk : k ≤ 7) (j : Nat) (hj : j < 65) : (if j = 64 - k then (.int .u8 (hd (u / 16 ^ k % 16)) : Value) else rowf u k j) = rowf u (k + 1) j := by
  unfold rowf
  by_cases e : j = 64 - k
  · rw [if_pos e, if_pos (by omega)]
    subst e
    unfold hx
    rw [show 64 - (64 - k) = k from by omega]
  · rw [if_neg e]
    by_cases e2 : 65 - k ≤ j
    · rw [if_pos e2, if_pos (by omega)]
    · rw [if_neg e2, if_neg (by omega)]
theorem sl65 (b k : Nat) (hk : k ≤ 7) (w : World) : (Instr.sliceAt 214 (.pointer (some ⟨b, 0, none⟩)) (some (.int .i64 (65 - (k : Int) - 1))) none none).run Tryd.prog w = .ok (.slice (some ⟨b, 64 - k, none⟩) (k + 1) (k + 1)) w := by
  have hL : Tryd.prog.arrayLen 214 = 65 := by kernel_rfl
  have hS : (sizeOf (Tryd.prog.elem 214)).run Tryd.prog w = .ok 1 w := by kernel_rfl
  rw [run_sliceAt_array_l w 214 _ (by kernel_rfl) .i64 _ (by omega) (by rw [hL]; omega), hS, hL]
  have e : (65 - (k : Int) - 1).toNat = 64 - k := by omega
  simp only [Result.andThen_ok, slicedAt, e]
  rw [if_neg (by omega)]
  simp [Addr.add]
  omega
def Fmt16 (u : Nat) (w : World) (e : Ending) (w' : World) : Prop := ∃ k, k ≤ 7 ∧ u < 16 ^ (k + 1) ∧ e = .returned (.tuple #[.slice none 0 0, .string (strOfNums (hexK u k))]) ∧ Below w.heap.size w w'
theorem row0 (w : World) : (w.alloc (.cells Tryd.zeroCells214 214)).rowIs w.heap.size 214 65 (fun _ => .int .u8 0) := by
  have e : Tryd.zeroCells214 = Array.replicate 65 (.int .u8 0) := by kernel_rfl
  rw [e]
  have h := World.rowIs_alloc w (Array.replicate 65 (.int .u8 0)) 214 (fun _ => .int .u8 0) (fun i hi => by simp at hi; simp [hi])
  simpa using h
set_option maxHeartbeats 1600000 in
set_option maxRecDepth 20000 in
theorem fmtBits_any (u : Nat) (w : World) (hu : u < 4294967296) (h : ∀ w1, Below w.heap.size w w1 → w1.cell? ⟨8, 15, none⟩ = some (.int .u8 4)) : Calls Tryd.prog 164 #[.slice none 0 0, .int .u64 u, .int .i64 16, .bool false, .bool false] w (Fmt16 u w) := by
  have H := Lib.hid h
  have HU := Lib.hid hu
  have R0 := Lib.hid (row0 w)
  clear h
  go_enter Tryd.func164, Tryd.ntmps164
  go_wp2_with (first
    | (go_at_call 180; refine (pow2_any _).mono ?_; rintro e w1 ⟨rfl, rfl⟩)
    | (go_at_call 181; refine (tz_any _ (H.out _ (below_al1 w _))).mono ?_; rintro e w1 ⟨rfl, rfl⟩)
    | go_in)
  go_loopw [1, 13] (fun x i wr => ∃ k x' : Nat, k ≤ 7 ∧ x = .int .u64 (x' : Int) ∧ i = .int .i64 (65 - (k : Int)) ∧ Hid (x' = u / 16 ^ k) ∧ Hid (Below w.heap.size w wr) ∧ Hid (wr.rowIs w.heap.size 214 65 (rowf u k))) (fun _ i _ => (intOf i).toNat)
  case atStart => exact ⟨0, u, by omega, rfl, rfl, Lib.hid (by simp), Lib.hid (below_al1 w _), Lib.hid (R0.out.congr (fun i hi => by unfold rowf; rw [if_neg (by omega)]))⟩
  case round =>
    obtain ⟨k, x, hk, rfl, rfl, hx0, hb, hr⟩ := hrel
    by_cases hge : 16 ≤ x
    · have hk6 : k ≤ 6 := by
        have h1 := hx0.out
        have h2 := HU.out
        by_cases e : k = 7
        · subst e; omega
        · omega
      have A1 := u64_and15 x (by have h1 := hx0.out; have h2 := HU.out; have := Nat.div_le_self u (16 ^ k); omega)
      have D1 := dig_at (x % 16) (by omega) (Nat.lt_of_lt_of_le (show x % 16 < 16 by omega) (by decide))
      have E1 : (65 - (k : Int) - 1).toNat = 64 - k := by omega
      have E2 : 65 - (k : Int) - 1 = 65 - ((k + 1 : Nat) : Int) := by omega
      have C0 := hr.out.cell (i := 64 - k) (by omega)
      have F0 := hr.out.frozen (64 - k)
      have R2 := Lib.hid (hr.out.set (64 - k) (.int .u8 (hd (x % 16))))
      have B2 := Lib.hid (hb.out.setCell (p := ⟨w.heap.size, 64 - k, none⟩) (Nat.le_refl _) (.int .u8 (hd (x % 16))))
      have HE := Lib.hid E2
      clear E2
      go_wp2
      go_roundw
      case rel =>
        refine ⟨k + 1, x / 16, by omega, by go_num, by rw [HE.out], Lib.hid ?_, B2, Lib.hid (R2.out.congr (fun j hj => ?_))⟩
        · rw [hx0.out, Nat.pow_succ, Nat.div_div_eq_div_mul]
        · rw [hx0.out]; exact rowf_step (by omega) j hj
      case measure => simp [intOf]; omega
    · have hlt : x < 16 := by omega
      have HK : Hid (u < 16 ^ (k + 1)) := Lib.hid (by
        have h1 := hx0.out
        rw [Nat.pow_succ]
        rw [Nat.mul_comm]; exact (Nat.div_lt_iff_lt_mul (Nat.pow_pos (show 0 < 16 by decide))).1 (by rw [← h1]; exact hlt))
      have D1 := dig_at x hlt (Nat.lt_of_lt_of_le hlt (by decide))
      have E1 : (65 - (k : Int) - 1).toNat = 64 - k := by omega
      have C0 := hr.out.cell (i := 64 - k) (by omega)
      have F0 := hr.out.frozen (64 - k)
      have R2 := Lib.hid (hr.out.set (64 - k) (.int .u8 (hd x)))
      have B2 := Lib.hid (hb.out.setCell (p := ⟨w.heap.size, 64 - k, none⟩) (Nat.le_refl _) (.int .u8 (hd x)))
      have R3 : Hid ((wr.setCell ⟨w.heap.size, 64 - k, none⟩ (.int .u8 (hd x))).rowIs w.heap.size 214 65 (rowf u (k + 1))) := Lib.hid (R2.out.congr (fun j hj => by
        have h1 := hx0.out
        have e : x = u / 16 ^ k % 16 := by omega
        conv => lhs; rw [e]
        exact rowf_step (by omega) j hj))
      have HL := hexK_len u k
      have HC := run_convert_bytes_arg (P := Tryd.prog) (wr.setCell ⟨w.heap.size, 64 - k, none⟩ (.int .u8 (hd x))) 150 5 Tryd.underlying150 Tryd.underlying5 w.heap.size (64 - k) (k + 1) (k + 1) (hexK u k) (by omega) (fun i hi => by
        have hi : i < k + 1 := by simpa [HL] using hi
        rw [R3.out.cell (i := 64 - k + i) (by omega)]
        unfold rowf
        rw [if_pos (by omega), List.getD_eq_getElem?_getD, hexK_at u k i (by omega), show 64 - (64 - k + i) = k - i from by omega]
        rfl) 9 Tryd.underlying9
      have HS := sl65 w.heap.size k hk (wr.setCell ⟨w.heap.size, 64 - k, none⟩ (.int .u8 (hd x)))
      clear hx0 R2 HL
      go_wp2
      go_ret2
      exact ⟨k, hk, HK.out, rfl, B2.out⟩
theorem fmtI16_any (u : Nat) (w : World) (hu : u < 4294967296) (h : ∀ w1, Below w.heap.size w w1 → w1.cell? ⟨8, 15, none⟩ = some (.int .u8 4)) : Calls Tryd.prog 140 #[.int .i64 u, .int .i64 16] w fun e w' => ∃ k, k ≤ 7 ∧ u < 16 ^ (k + 1) ∧ e = .returned (.string (strOfNums (hexK u k))) ∧ Below w.heap.size w w' := by
  have HC := Lib.hid (fmtBits_any u w hu h)
  have hw : IntKind.u64.wrap (u : Int) = u := by unfold IntKind.wrap; simp [IntKind.bits, IntKind.signed]; omega
  have hn : decide ((u : Int) < 0) = false := by simp
  clear h
  go_enter Tryd.func140, Tryd.ntmps140
  go_wp2_with fail
  refine HC.out.mono ?_
  rintro e w1 ⟨k, hk, hK, rfl, hb⟩
  have H := Lib.hid (And.intro hk (And.intro hK hb))
  clear hk hK hb
  go_wp2
  go_ret
  exact ⟨k, H.out.1, H.out.2.1, rfl, H.out.2.2⟩
theorem fmt16_any (u : Nat) (w : World) (hu : u < 4294967296) (h : Tabs w) : Calls Tryd.prog 104 #[.int .i64 u, .int .i64 16] w fun e w' => ∃ k, k ≤ 7 ∧ u < 16 ^ (k + 1) ∧ e = .returned (.string (strOfNums (hexK u k))) ∧ Below w.heap.size w w' := by
  have HC := Lib.hid (fmtI16_any u w hu (fun w1 hb => (h.below hb).d64.cell (g := 8) (by kernel_rfl) 15 (by decide)))
  clear h
  go_enter Tryd.func104, Tryd.ntmps104
  go_wp2_with fail
  refine HC.out.mono ?_
  rintro e w1 ⟨k, hk, hK, rfl, hb⟩
  have H := Lib.hid (And.intro hk (And.intro hK hb))
  clear hk hK hb
  go_wp2
  go_ret
  exact ⟨k, H.out.1, H.out.2.1, rfl, H.out.2.2⟩
end Go.Proofs.YtbgldggaiefhoaaDoor
