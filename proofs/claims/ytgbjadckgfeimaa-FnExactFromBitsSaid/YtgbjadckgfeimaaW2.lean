/- Walks: subnormal numbers, flushed numbers, numbers from bits. -/
import Derived.Test.YtgbjadckgfeimaaW1
import Derived.Lib.Hide
namespace Go.Proofs.Ytgbjadckgfeimaa
open Go.RowKit

def sub32 (a : Nat) : Bool := decide (a % 2147483648 ≠ 0 ∧ a % 2147483648 < 8388608)

theorem key32 (a : Nat) (h : a < 4294967296) : key FloatKind.f32.format a = if 2147483648 ≤ a then -((a % 2147483648 : Nat) : Int) else ((a % 2147483648 : Nat) : Int) := by
  unfold key
  rw [single_sw]
  by_cases h1 : 2147483648 ≤ a
  · rw [if_pos h1, show a / 2147483648 % 2 = 1 by omega]; rfl
  · rw [if_neg h1, show a / 2147483648 % 2 = 0 by omega]; rfl

theorem ord0 (a : Nat) (h : a < 4294967296) : (FloatKind.f32.format.order a 0 == some .eq) = decide (a % 2147483648 = 0) := by
  rw [ord_key, nn32, nn32, key32 a h, key32 0 (by decide)]
  simp only [Nat.zero_mod, Nat.not_lt_zero, decide_false, Bool.or_false]
  by_cases hn : 2139095040 < a % 2147483648
  · rw [decide_eq_true hn, if_pos rfl, decide_eq_false (by omega)]; rfl
  · rw [decide_eq_false hn, if_neg (by decide), cmp_eq]
    exact decide_eq_decide.2 (by split <;> omega)

theorem sub_eq (a : Nat) (h : a < 4294967296) : sub32 a = ((!(FloatKind.f32.format.order a 0 == some .eq)) && (FloatKind.f32.format.order a 2155872256 == some .gt) && (FloatKind.f32.format.order a 8388608 == some .lt)) := by
  rw [ord0 a h, ord_key, ord_key, nn32, nn32, nn32, key32 a h, key32 2155872256 (by decide), key32 8388608 (by decide)]
  unfold sub32
  by_cases hn : 2139095040 < a % 2147483648
  · rw [decide_eq_true hn]
    simp only [Bool.true_or, if_true]
    rw [decide_eq_false (by omega)]
    simp
  · rw [decide_eq_false hn]
    simp only [Bool.false_or]
    rw [decide_eq_false (show ¬ 2139095040 < 2155872256 % 2147483648 by decide)]
    simp only [Bool.false_eq_true, if_false]
    rw [cmp_gt, cmp_lt, if_pos (show 2147483648 ≤ 2155872256 by decide), if_neg (show ¬ 2147483648 ≤ 8388608 by decide)]
    apply Bool.eq_iff_iff.2
    simp only [Bool.and_eq_true, Bool.not_eq_true', decide_eq_true_eq, decide_eq_false_iff_not]
    split <;> omega

theorem mask_sub (a : Nat) (h : a < 4294967296) : (bits .and .i64 (bits32 a) 2139095040 == 0) = decide (a % 2147483648 < 8388608) := by
  unfold bits32
  cases hn : nn .f32 a
  · simp only [Bool.false_eq_true, if_false]
    rw [exp_mask a h]
    by_cases hs : a % 2147483648 < 8388608
    · rw [decide_eq_true hs, Nat.div_eq_of_lt hs]; rfl
    · rw [decide_eq_false hs]
      exact beq_eq_false_iff_ne.2 (by omega)
  · rw [nn32] at hn
    have := of_decide_eq_true hn
    rw [decide_eq_false (by omega), if_pos rfl]
    decide +kernel

theorem implSub_any (a : Nat) (w : World) (wa : (Lit.float .f32 a).wf = true) :
    Calls Try.prog 22 #[.float .f32 a] w fun e w' => e = .returned (.bool (sub32 a)) ∧ w = w' := by
  have hs := Lib.hid (sub_eq a (wf32 wa))
  cases h1 : (FloatKind.f32.format.order a 0 == some .eq) <;> cases h2 : (FloatKind.f32.format.order a 2155872256 == some .gt) <;> cases h3 : (FloatKind.f32.format.order a 8388608 == some .lt)
  all_goals
    have hb : sub32 a = _ := hs.out
    rw [h1, h2, h3] at hb
    have h1n : (FloatKind.f32.format.order a 0 != some .eq) = !(FloatKind.f32.format.order a 0 == some .eq) := rfl
    rw [h1] at h1n
    simp only [Bool.not_false, Bool.not_true] at h1n
    have Hb := Lib.hid hb
    clear hb
    go_enter Try.func22, Try.ntmps22
    go_wp2
    go_ret
    exact ⟨by rw [Hb.out]; rfl, rfl⟩

theorem specSub_any (a : Nat) (w : World) (wa : (Lit.float .f32 a).wf = true) :
    Calls Try.prog 21 #[.float .f32 a] w fun e w' => e = .returned (.bool (sub32 a)) ∧ w = w' := by
  have hm := mask_sub a (wf32 wa)
  have h0 := ord0 a (wf32 wa)
  have hz : sub32 a = (!decide (a % 2147483648 = 0) && decide (a % 2147483648 < 8388608)) := by
    unfold sub32
    apply Bool.eq_iff_iff.2
    simp
  cases h1 : decide (a % 2147483648 = 0) <;> cases h2 : decide (a % 2147483648 < 8388608)
  all_goals
    rw [h1] at h0 hz
    rw [h2] at hm hz
    have h1n : (FloatKind.f32.format.order a 0 != some .eq) = !(FloatKind.f32.format.order a 0 == some .eq) := rfl
    rw [h0] at h1n
    simp only [Bool.not_false, Bool.not_true] at h1n
    clear h1 h2
    have Hz := Lib.hid hz
    clear hz
    go_enter Try.func21, Try.ntmps21
    go_wp2_with (go_at_call 28; refine (specBits_any _ _ wa).mono ?_; rintro e w' ⟨rfl, rfl⟩)
    go_ret
    exact ⟨by rw [Hz.out]; rfl, rfl⟩

theorem fnExactIsSubnormal_walk (a : Nat) (w : World) (wa : (Lit.float .f32 a).wf = true) :
    Calls Try.prog 8 #[.float .f32 a] w (Tru w) := by
  go_enter Try.func8, Try.ntmps8
  go_wp2_with (first | (go_at_call 21; refine (specSub_any _ _ wa).mono ?_; rintro e w' ⟨rfl, rfl⟩) | (go_at_call 22; refine (implSub_any _ _ wa).mono ?_; rintro e w' ⟨rfl, rfl⟩))
  go_ret
  exact Tru.same

/-! Numbers from bits. -/
def from32 (n : Int) : Nat := (IntKind.u32.wrap n).toNat

theorem specFromBits_yes (n : Int) (w : World) (h0 : 0 ≤ n) (h1 : n ≤ 4294967295) :
    Calls Try.prog 16 #[.int .i64 n] w (Flo2 n.toNat true w) := by
  go_enter Try.func16, Try.ntmps16
  go_wp2_with go_in
  go_ret2
  exact ⟨rfl, rfl⟩
theorem implFromBits_yes (n : Int) (w : World) (h0 : 0 ≤ n) (h1 : n ≤ 4294967295) :
    Calls Try.prog 17 #[.int .i64 n] w (Flo2 n.toNat true w) := by
  go_enter Try.func17, Try.ntmps17
  go_wp2_with go_in
  go_ret2
  exact ⟨rfl, rfl⟩
theorem specFromBits_no (n : Int) (w : World) (h : n < 0 ∨ 4294967295 < n) :
    Calls Try.prog 16 #[.int .i64 n] w (Flo2 0 false w) := by
  rcases h with h | h
  · have hd : decide (0 ≤ n) = false := decide_eq_false (by omega)
    go_enter Try.func16, Try.ntmps16
    go_wp2_with go_in
    go_ret2
    exact ⟨rfl, rfl⟩
  · have hd : decide (n ≤ 4294967295) = false := decide_eq_false (by omega)
    go_enter Try.func16, Try.ntmps16
    go_wp2_with go_in
    go_ret2
    exact ⟨rfl, rfl⟩
theorem implFromBits_no (n : Int) (w : World) (h : n < 0 ∨ 4294967295 < n) :
    Calls Try.prog 17 #[.int .i64 n] w (Flo2 0 false w) := by
  rcases h with h | h
  all_goals
    go_enter Try.func17, Try.ntmps17
    go_wp2_with go_in
    go_ret2
    exact ⟨rfl, rfl⟩

theorem fromBits_ends (n : Int) : ∃ r b, ∀ w, Calls Try.prog 16 #[.int .i64 n] w (Flo2 r b w) ∧ Calls Try.prog 17 #[.int .i64 n] w (Flo2 r b w) := by
  by_cases h : 0 ≤ n ∧ n ≤ 4294967295
  · exact ⟨_, _, fun w => ⟨specFromBits_yes n w h.1 h.2, implFromBits_yes n w h.1 h.2⟩⟩
  · exact ⟨_, _, fun w => ⟨specFromBits_no n w (by omega), implFromBits_no n w (by omega)⟩⟩

theorem fnExactFromBits_walk (n : Int) (w : World) (_wa : (Lit.int .i64 n).wf = true) :
    Calls Try.prog 6 #[.int .i64 n] w (Tru w) := by
  obtain ⟨r, b, hh⟩ := fromBits_ends n
  have H := Lib.hid hh
  clear hh
  go_enter Try.func6, Try.ntmps6
  go_wp2_with (first | (go_at_call 16; refine ((H.out _).1).mono ?_; rintro e w' ⟨rfl, rfl⟩) | (go_at_call 17; refine ((H.out _).2).mono ?_; rintro e w' ⟨rfl, rfl⟩) | (refine wpList_up rfl Try.underlying22 Try.underlying29 _ rfl _ rfl ?_; intro _ _ _) | (go_at_call 18; refine (same_end (a := r) (b := r) _ (by assumption) (by assumption) rfl).mono ?_; rintro e w' ⟨rfl, n, rfl⟩))
  go_ret
  exact Tru.drewN

/-! Flushed numbers. -/
def fl32 (a : Nat) : Nat := if a % 2147483648 < 8388608 then a / 2147483648 * 2147483648 else a

theorem fl32_nan {a : Nat} (h : nn .f32 a = true) : fl32 a = a := by
  rw [nn32] at h
  have := of_decide_eq_true h
  exact if_neg (by omega)
theorem fl32_sub {a : Nat} (h : sub32 a = true) : fl32 a = a / 2147483648 * 2147483648 := by
  have := of_decide_eq_true h
  exact if_pos this.2
theorem fl32_not {a : Nat} (h : sub32 a = false) : fl32 a = a := by
  have := of_decide_eq_false h
  unfold fl32
  split <;> omega

theorem word_sign (f : Ieee.Format) (s : Bool) (r : Nat) (h : r ≤ f.infRung) : f.word s r / f.signWeight = s.toNat := by
  have h1 := Ieee.Format.infRung_lt f
  have hs : 0 < f.signWeight := Nat.two_pow_pos _
  unfold Ieee.Format.word
  cases s
  · simp only [Bool.false_eq_true, if_false]; exact Nat.div_eq_of_lt (by omega)
  · simp only [if_true]
    rw [Nat.add_comm, Nat.add_div_right _ hs, Nat.div_eq_of_lt (by omega)]; rfl

theorem write_sign (f : Ieee.Format) (d : Ieee.Datum) (h : d.isNaN = false) : f.write d / f.signWeight = d.neg.toNat := by
  cases d with
  | number neg mag place =>
    show f.nearest neg mag place / _ = _
    unfold Ieee.Format.nearest
    split
    · exact word_sign f neg 0 (Nat.zero_le _)
    · exact word_sign f neg _ (Nat.min_le_right _ _)
  | infinity neg => exact word_sign f neg _ (Nat.le_refl _)
  | nan neg t => simp [Ieee.Datum.isNaN] at h

theorem read_sign (k : FloatKind) (a : Nat) : (k.decode a).neg = (a / k.format.signWeight % 2 == 1) := by
  unfold FloatKind.decode Ieee.Format.read
  dsimp only
  repeat' split
  all_goals rfl

/-- a number made wider keeps its sign -/
theorem up_sign {a r : Nat} (h : UR a r) (ha : a < 4294967296) (hn : nn .f32 a = false) : r / 9223372036854775808 = a / 2147483648 := by
  have h1 := h.1
  rw [cn_of_num (by rw [nn_up h]; exact hn), cn_of_num hn] at h1
  obtain ⟨u, hu⟩ := up_some hn
  rw [cvu, hu] at h1
  change r = u at h1
  subst h1
  have hs := read_sign .f32 a
  rw [single_sw, Nat.mod_eq_of_lt (show a / 2147483648 < 2 by omega)] at hs
  unfold floatToFloatBits at hu
  rw [if_neg (by decide)] at hu
  have key : ∀ d : Ieee.Datum, FloatKind.f32.decode a = d → d.isNaN = false → FloatKind.f64.encode d / 9223372036854775808 = a / 2147483648 := by
    intro d hd hdn
    have := write_sign Ieee.double d hdn
    rw [show Ieee.double.signWeight = 9223372036854775808 from double_sw] at this
    rw [show FloatKind.f64.encode d = Ieee.double.write d from rfl, this, ← hd, hs]
    have : a / 2147483648 = 0 ∨ a / 2147483648 = 1 := by omega
    rcases this with e | e <;> rw [e] <;> rfl
  split at hu
  · cases hu
  · rename_i s he; cases hu; exact key _ he rfl
  · rename_i s m e he
    split at hu
    · cases hu
    · cases hu; exact key _ he rfl

theorem specFlush_any (a : Nat) (w : World) (wa : (Lit.float .f32 a).wf = true) :
    Calls Try.prog 34 #[.float .f32 a] w fun e w' => e = .returned (.float .f32 (fl32 a)) ∧ w = w' := by
  have hm := mask_sub a (wf32 wa)
  have hl := wf32 wa
  cases h2 : decide (a % 2147483648 < 8388608)
  · rw [h2] at hm
    have hf : fl32 a = a := if_neg (of_decide_eq_false h2)
    clear h2
    have Hf := Lib.hid hf
    clear hf
    go_enter Try.func34, Try.ntmps34
    go_wp2_with (go_at_call 28; refine (specBits_any _ _ wa).mono ?_; rintro e w' ⟨rfl, rfl⟩)
    go_ret
    exact ⟨by rw [Hf.out]; rfl, rfl⟩
  · rw [h2] at hm
    have hlt := of_decide_eq_true h2
    have hn : nn .f32 a = false := by rw [nn32]; exact decide_eq_false (by omega)
    have hf : fl32 a = a / 2147483648 * 2147483648 := if_pos hlt
    have hs : bits .and .i64 (bits32 a) 2147483648 = ((a / 2147483648 * 2147483648 : Nat) : Int) := by rw [bits32, hn]; exact sign_mask a hl
    have Hs := Lib.hid hs
    have Hf := Lib.hid hf
    clear h2 hlt hf hs hn
    go_enter Try.func34, Try.ntmps34
    go_wp2_with (first | (go_at_call 28; refine (specBits_any _ _ wa).mono ?_; rintro e w' ⟨rfl, rfl⟩) | (go_at_call 31; rw [Hs.out]; go_in))
    go_ret
    refine ⟨?_, rfl⟩
    rw [Hf.out]
    rfl

theorem copysign_zero (r : Nat) (w : World) (hr : r < 18446744073709551616) : Calls Try.prog 35 #[.float .f64 0, .float .f64 r] w fun e w' => e = .returned (.float .f64 (r / 9223372036854775808 * 9223372036854775808)) ∧ w = w' := by
  have e := Lib.hid (copysign_bits r hr)
  go_enter Try.func35, Try.ntmps35
  go_wp2
  go_ret
  exact ⟨congrArg (fun n : Nat => Ending.returned (.float .f64 n)) e.out, rfl⟩

theorem copysign_up {a r : Nat} (w : World) (h : UR a r) : Calls Try.prog 35 #[.float .f64 0, .float .f64 r] w fun e w' => e = .returned (.float .f64 (r / 9223372036854775808 * 9223372036854775808)) ∧ w = w' := copysign_zero r w (wf64 h.2)

/-- a zero with a sign, narrowed -/
theorem down_zero {a m r : Nat} (h : DR m r) (ha : a < 2) (hm : m = a * 9223372036854775808) : cn .f32 r = a * 2147483648 := by
  have : a = 0 ∨ a = 1 := by omega
  rcases this with rfl | rfl
  · subst hm
    exact (h.1 (by decide +kernel)).trans (by decide +kernel)
  · subst hm
    exact (h.1 (by decide +kernel)).trans (by decide +kernel)

theorem implFlush_any (a : Nat) (w : World) (wa : (Lit.float .f32 a).wf = true) :
    Calls Try.prog 24 #[.float .f32 a] w (Flo (fun r => cn .f32 r = cn .f32 (fl32 a)) w) := by
  have hl := wf32 wa
  cases hs : sub32 a
  · have hf := Lib.hid (fl32_not hs)
    go_enter Try.func24, Try.ntmps24
    go_wp2_with (first | (go_at_call 22; refine (implSub_any _ _ wa).mono ?_; rintro e w' ⟨rfl, rfl⟩))
    go_ret
    exact ⟨a, 0, by rw [hf.out], wa, rfl, rfl⟩
  · have hf := Lib.hid (fl32_sub hs)
    have hn : nn .f32 a = false := by have := of_decide_eq_true hs; rw [nn32]; exact decide_eq_false (by omega)
    have HN := Lib.hid hn
    clear hn
    go_enter Try.func24, Try.ntmps24
    go_wp2_with (first | (go_at_call 22; refine (implSub_any _ _ wa).mono ?_; rintro e w' ⟨rfl, rfl⟩) | (refine wpList_up rfl Try.underlying22 Try.underlying29 _ rfl _ rfl ?_; intro _ _ _) | (refine wpList_down rfl Try.underlying29 Try.underlying22 _ rfl _ rfl ?_; intro _ _ _) | (go_at_call 35; refine (copysign_up _ (by assumption)).mono ?_; rintro e w' ⟨rfl, rfl⟩))
    go_ret
    rename_i r j hu s j' hd
    refine ⟨s, _, ?_, hd.2, rfl, rfl⟩
    show cn .f32 s = cn .f32 (fl32 a)
    rw [hf.out, down_zero (a := a / 2147483648) hd (by omega) (by rw [up_sign hu hl HN.out])]
    have hz : a / 2147483648 = 0 ∨ a / 2147483648 = 1 := by omega
    rcases hz with hz | hz <;> rw [hz] <;> rfl

theorem fnExactFlushNumber_walk (a : Nat) (w : World) (wa : (Lit.float .f32 a).wf = true) :
    Calls Try.prog 9 #[.float .f32 a] w (Tru w) := by
  go_enter Try.func9, Try.ntmps9
  go_wp2_with (first | (go_at_call 34; refine (specFlush_any _ _ wa).mono ?_; rintro e w' ⟨rfl, rfl⟩) | (go_at_call 24; refine (implFlush_any _ _ wa).mono ?_; rintro e w' ⟨r, n, hr, _, rfl, rfl⟩; have Hr := Lib.hid hr; clear hr) | (refine wpList_up rfl Try.underlying22 Try.underlying29 _ rfl _ rfl ?_; intro _ _ _) | (go_at_call 18; refine (same_end (b := fl32 a) _ (by assumption) (by assumption) (RowKit.Hid.out (by assumption))).mono ?_; rintro e w' ⟨rfl, n, rfl⟩) | go_in)
  go_ret
  exact Tru.drewN
end Go.Proofs.Ytgbjadckgfeimaa
