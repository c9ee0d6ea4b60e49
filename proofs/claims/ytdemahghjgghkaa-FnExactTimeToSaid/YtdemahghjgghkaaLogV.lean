/- Logarithms: every case, walked. -/
import Derived.Test.YtdemahghjgghkaaLogL
namespace Go.Proofs.Ytdemahghjgghkaa
open Go.RowKit

def Val (c : Nat) (w : World) (e : Ending) (w' : World) : Prop := ∃ r n, cn .f32 r = c ∧ e = .returned (.float .f32 r) ∧ w' = w.drewN n

theorem dn_inf {r : Nat} (h : DR 18442240474082181120 r) : cn .f32 r = 4286578688 := (h.1 (by decide +kernel)).trans (by decide +kernel)
theorem dn_pinf {r : Nat} (h : DR 9218868437227405312 r) : cn .f32 r = 2139095040 := (h.1 (by decide +kernel)).trans (by decide +kernel)
theorem dn_nan {r : Nat} (h : DR 9221120237041090561 r) : cn .f32 r = 2143289344 := (h.1 (by decide +kernel)).trans (by decide +kernel)
theorem ord32_zero {a : Nat} (ha : a = 0 ∨ a = 2147483648) : FloatKind.f32.format.order a 0 = some .eq := by
  rcases ha with rfl | rfl <;> decide +kernel
theorem ord32_nan {a : Nat} (ha : nn .f32 a = true) : FloatKind.f32.format.order a 0 = none ∧ FloatKind.f32.format.order a a = none := by
  constructor
  · rw [ord_key, ha]; rfl
  · rw [order_self, ha]; rfl
theorem key32_neg (k : Nat) (hk : k < 2147483648) : key FloatKind.f32.format (2147483648 + k) = -(k : Int) := by
  unfold key
  rw [single_sw, Nat.add_mod_left, Nat.mod_eq_of_lt hk, show (2147483648 + k) / 2147483648 % 2 = 1 by omega]
  rfl
theorem ord32_neg' {k : Nat} (hk : k < 2147483648) (h0 : 0 < k) (hn : nn .f32 (2147483648 + k) = false) : FloatKind.f32.format.order (2147483648 + k) 0 = some .lt := by
  rw [ord_key, hn, show nn .f32 0 = false by decide +kernel, key32_neg k hk, show key FloatKind.f32.format 0 = 0 by decide +kernel]
  simp only [Bool.or_self, Bool.false_eq_true, if_false, compare, compareOfLessAndEq]
  rw [if_pos (by omega)]
theorem ord32_neg {a : Nat} (hl : a < 4294967296) (h0 : 2147483648 < a) (hn : nn .f32 a = false) : FloatKind.f32.format.order a 0 = some .lt ∧ FloatKind.f32.format.order a a = some .eq := by
  refine ⟨?_, by rw [order_self, hn]; rfl⟩
  obtain ⟨k, rfl⟩ := Nat.exists_eq_add_of_le (Nat.le_of_lt h0)
  exact ord32_neg' (by omega) (by omega) hn

theorem implLogN_zero (a : Nat) (w : World) (ha : a = 0 ∨ a = 2147483648) : Calls Try.prog 74 #[.float .f32 a] w (Val 4286578688 w) := by
  have o := ord32_zero ha
  clear ha
  go_enter Try.func74, Try.ntmps74
  go_wp2_with (first | (refine wpList_down rfl Try.underlying29 Try.underlying25 _ rfl _ rfl ?_; intro _ _ _) | go_in)
  go_ret
  rename_i r j hd
  exact ⟨_, _, dn_inf hd, rfl, rfl⟩
theorem specLogN_zero (a : Nat) (w : World) (ha : a = 0 ∨ a = 2147483648) : Calls Try.prog 72 #[.float .f32 a] w (Val 4286578688 w) := by
  have HA := Lib.hid ha
  clear ha
  go_enter Try.func72, Try.ntmps72
  go_wp2_with (first | (refine wpList_up rfl Try.underlying25 Try.underlying29 _ rfl _ rfl ?_; intro r j hu; obtain ⟨f1, f2⟩ := up_zero HA.out hu) | (refine wpList_down rfl Try.underlying29 Try.underlying25 _ rfl _ rfl ?_; intro _ _ _) | go_in)
  go_ret
  rename_i r j hd
  exact ⟨_, _, dn_inf hd, rfl, rfl⟩

theorem implLogN_nan (a : Nat) (w : World) (ha : nn .f32 a = true) : Calls Try.prog 74 #[.float .f32 a] w (Val 2143289344 w) := by
  obtain ⟨o1, o2⟩ := ord32_nan ha
  clear ha
  go_enter Try.func74, Try.ntmps74
  go_wp2_with go_in
  go_ret
  exact ⟨2143289344, 0, by decide +kernel, rfl, rfl⟩
theorem specLogN_nan (a : Nat) (w : World) (ha : nn .f32 a = true) : Calls Try.prog 72 #[.float .f32 a] w (Val 2143289344 w) := by
  have HA := Lib.hid ha
  clear ha
  go_enter Try.func72, Try.ntmps72
  go_wp2_with (first | (refine wpList_up rfl Try.underlying25 Try.underlying29 _ rfl _ rfl ?_; intro r j hu; have f1 := up_nan HA.out hu) | (refine wpList_down rfl Try.underlying29 Try.underlying25 _ rfl _ rfl ?_; intro _ _ _) | go_in)
  go_ret
  rename_i r j hd
  exact ⟨_, _, dn_nan hd, rfl, rfl⟩

theorem implLogN_neg (a : Nat) (w : World) (hl : a < 4294967296) (h0 : 2147483648 < a) (hn : nn .f32 a = false) : Calls Try.prog 74 #[.float .f32 a] w (Val 2143289344 w) := by
  obtain ⟨o1, o2⟩ := ord32_neg hl h0 hn
  clear hl h0 hn
  go_enter Try.func74, Try.ntmps74
  go_wp2_with go_in
  go_ret
  exact ⟨2143289344, 0, by decide +kernel, rfl, rfl⟩
theorem specLogN_neg (a : Nat) (w : World) (hl : a < 4294967296) (h0 : 2147483648 < a) (hn : nn .f32 a = false) : Calls Try.prog 72 #[.float .f32 a] w (Val 2143289344 w) := by
  have HA := Lib.hid (And.intro hl (And.intro h0 hn))
  clear hl h0 hn
  go_enter Try.func72, Try.ntmps72
  go_wp2_with (first | (refine wpList_up rfl Try.underlying25 Try.underlying29 _ rfl _ rfl ?_; intro r j hu; obtain ⟨f1, f2⟩ := up_neg hu HA.out.1 HA.out.2.1 HA.out.2.2) | (refine wpList_down rfl Try.underlying29 Try.underlying25 _ rfl _ rfl ?_; intro _ _ _) | go_in)
  go_ret
  rename_i r j hd
  exact ⟨_, _, dn_nan hd, rfl, rfl⟩

theorem implLogN_inf (w : World) : Calls Try.prog 74 #[.float .f32 2139095040] w (Val 2139095040 w) := by
  obtain ⟨o1, o2⟩ := pos_order32 2139095040 (by omega) (by omega)
  have hf : fin .f32 2139095040 = false := by decide +kernel
  go_enter Try.func74, Try.ntmps74
  go_wp2_with (first | (go_at_call 55; refine (implFinite_any _ _).mono ?_; rw [hf]; rintro e w' ⟨rfl, n, rfl⟩) | go_in)
  go_ret
  exact ⟨2139095040, _, by decide +kernel, rfl, rfl⟩
theorem specLogN_inf (w : World) : Calls Try.prog 72 #[.float .f32 2139095040] w (Val 2139095040 w) := by
  go_enter Try.func72, Try.ntmps72
  go_wp2_with (first | (refine wpList_up rfl Try.underlying25 Try.underlying29 _ rfl _ rfl ?_; intro r j hu; obtain ⟨f1, f2, f3, f4⟩ := up_inf hu; have F4 := Lib.hid f4; clear f4) | (refine wpList_down rfl Try.underlying29 Try.underlying25 _ rfl _ rfl ?_; intro _ _ _) | go_in)
  go_ret
  rename_i r2 j2 hd
  rw [F4.out] at hd
  exact ⟨_, _, dn_pinf hd, rfl, rfl⟩

theorem logs_agree (a : Nat) (ha : a < 4294967296) : ∃ c, ∀ w, Calls Try.prog 72 #[.float .f32 a] w (Val c w) ∧ Calls Try.prog 74 #[.float .f32 a] w (Val c w) := by
  cases hn : nn .f32 a
  · by_cases hz : a = 0 ∨ a = 2147483648
    · exact ⟨_, fun w => ⟨specLogN_zero a w hz, implLogN_zero a w hz⟩⟩
    · by_cases hneg : 2147483648 < a
      · exact ⟨_, fun w => ⟨specLogN_neg a w ha hneg hn, implLogN_neg a w ha hneg hn⟩⟩
      · have hb : a ≤ 2139095040 := by
          rw [nn32] at hn
          have := of_decide_eq_false hn
          omega
        by_cases hi : a = 2139095040
        · subst hi
          exact ⟨_, fun w => ⟨specLogN_inf w, implLogN_inf w⟩⟩
        · obtain ⟨r, _, hr, _⟩ := run_up (P := Try.prog) Try.underlying25 Try.underlying29 a default
          refine ⟨cvd (lgE (x2 r) (fi (en r))), fun w => ⟨(specLogN_pos a w (by omega) (by omega)).mono ?_, (implLogN_pos a w (by omega) (by omega)).mono ?_⟩⟩
          · rintro e w' ⟨t, n, ht, _, he, hw⟩; exact ⟨t, n, ht r hr, he, hw⟩
          · rintro e w' ⟨t, n, ht, _, he, hw⟩; exact ⟨t, n, ht r hr, he, hw⟩
  · exact ⟨_, fun w => ⟨specLogN_nan a w hn, implLogN_nan a w hn⟩⟩
end Go.Proofs.Ytdemahghjgghkaa
