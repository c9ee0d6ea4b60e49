/- The law on logarithms, case by case. -/
import Derived.Test.YtdemahghjgghkaaLogBd
import Derived.Test.YtdemahghjgghkaaFin
namespace Go.Proofs.Ytdemahghjgghkaa
open Go.RowKit

theorem read_mant {b : Nat} {s : Bool} {m : Nat} {e : Int} (h : Ieee.double.read b = .number s m e) : m < 9007199254740992 := by
  unfold Ieee.Format.read at h
  dsimp only at h
  rw [double_binade] at h
  split at h
  · simp only [Ieee.Datum.number.injEq] at h; omega
  · split at h
    · simp only [Ieee.Datum.number.injEq] at h; omega
    · split at h <;> simp at h

theorem sE_Bd {r : Nat} (h0 : 4604930618986332160 ≤ r) (h1 : r < 4609434218613702656) : Bd 1 (sE r) := by
  obtain ⟨n, j, hr, hn, _, hl⟩ := add_one h0 h1
  exact quo_Bd (sub_one h0 h1) hr hn hl (fun s m e h => read_mant h)

theorem lgE_Bd {r : Nat} (hr : InR r) : Bd 127 (lgE (x2 r) (fi (en r))) := by
  obtain ⟨h0, h1⟩ := x2_range hr
  have hs := sE_Bd h0 h1
  have hu := mul_Bd hs hs (by omega) (by omega)
  have hq := q_Bd (u := fop .mul .f64 (sE (x2 r)) (sE (x2 r))) hu 13 (by omega)
  have hsq := mul_Bd hs hq (by omega) (by omega)
  have h2 := mul_Bd (Bd_of_B (show bdB 2 4611686018427387904 = true by decide +kernel)) hsq (by omega) (by omega)
  have b1 := nh_le hr
  have b2 := nd_le hr
  have he := fi_Bd (en r) (by unfold en; omega) (by unfold en; omega)
  have hec := mul_Bd he (Bd_of_B (show bdB 0 4604418534313441775 = true by decide +kernel)) (by omega) (by omega)
  have := add_Bd (h2.mono (show _ ≤ (100 : Int) by omega)) (hec.mono (show _ ≤ (100 : Int) by omega)) (by omega) (by omega)
  exact this.mono (by omega)

theorem InR_of {a r : Nat} (h : UR a r) (h0 : 0 < a) (h1 : a < 2139095040) : InR r := by
  obtain ⟨g0, g1⟩ := up_range h h0 h1
  exact ⟨by omega, by omega⟩

/-- the logarithm of a positive finite number -/
def lgN (a t : Nat) : Prop := ∀ r, UR a r → cn .f32 t = cvd (lgE (x2 r) (fi (en r)))
theorem UR_fun {a r s : Nat} (h : UR a r) (h' : UR a s) (hn : nn .f32 a = false) : r = s := by
  have e := h.1.trans h'.1.symm
  rwa [cn_of_num (by rw [nn_up h]; exact hn), cn_of_num (by rw [nn_up h']; exact hn)] at e
theorem lgN_of {a r t u : Nat} (h : UR a r) (h0 : 0 < a) (h1 : a < 2139095040) (ht : cn .f64 t = lgE (x2 r) (fi (en r))) (hd : DR t u) : lgN a u := by
  intro s hs
  have hn : nn .f32 a = false := by rw [nn32]; exact decide_eq_false (by omega)
  have e := UR_fun h hs hn
  subst e
  rw [hd.1 (by rw [ht]; exact ovf_small (lgE_Bd (InR_of h h0 h1))), ht]

theorem pos_order32 (a : Nat) (h0 : 0 < a) (h1 : a ≤ 2139095040) : FloatKind.f32.format.order a 0 = some .gt ∧ FloatKind.f32.format.order a a = some .eq := by
  have k0 : ∀ x, x < 2147483648 → key FloatKind.f32.format x = x := by
    intro x hx
    unfold key
    rw [single_sw, Nat.div_eq_of_lt hx, Nat.mod_eq_of_lt hx]
    rfl
  constructor
  · rw [ord_key, nn32, nn32, decide_eq_false (by omega), decide_eq_false (by omega), k0 a (by omega), k0 0 (by omega)]
    simp only [Bool.or_self, Bool.false_eq_true, if_false, compare, compareOfLessAndEq]
    rw [if_neg (by omega), if_neg (by omega)]
  · rw [order_self, nn32, decide_eq_false (by omega)]; rfl

theorem implLogN_pos (a : Nat) (w : World) (h0 : 0 < a) (h1 : a < 2139095040) : Calls Try.prog 74 #[.float .f32 a] w (Flo (lgN a) w) := by
  obtain ⟨o1, o2⟩ := pos_order32 a h0 (by omega)
  have hf : fin .f32 a = true := by
    unfold fin
    rw [nn32, decide_eq_false (by omega)]
    unfold FloatKind.decode
    rw [show FloatKind.f32.format.read a = _ from pos_read32 a h1]
    rfl
  go_enter Try.func74, Try.ntmps74
  go_wp2_with (first | (refine wpList_up rfl Try.underlying25 Try.underlying29 _ rfl _ rfl ?_; intro _ _ _) | (refine wpList_down rfl Try.underlying29 Try.underlying25 _ rfl _ rfl ?_; intro _ _ _) | (go_at_call 55; refine (implFinite_any _ _).mono ?_; rw [hf]; rintro e w' ⟨rfl, n, rfl⟩) | (go_at_call 86; refine (implLog_any _ _ (InR_of (by assumption) h0 h1)).mono ?_; rintro e w' ⟨t, n, ht, rfl, rfl⟩; have HT := Lib.hid ht; clear ht))
  go_ret
  rename_i r j hu u j2 hd
  exact ⟨_, _, lgN_of hu h0 h1 HT.out hd, hd.2, rfl, rfl⟩

theorem specLogN_pos (a : Nat) (w : World) (h0 : 0 < a) (h1 : a < 2139095040) : Calls Try.prog 72 #[.float .f32 a] w (Flo (lgN a) w) := by
  go_enter Try.func72, Try.ntmps72
  go_wp2_with (first | (refine wpList_up rfl Try.underlying25 Try.underlying29 _ rfl _ rfl ?_; intro _ _ _) | (refine wpList_down rfl Try.underlying29 Try.underlying25 _ rfl _ rfl ?_; intro _ _ _) | (go_at_call 81; refine (specLog_any _ _ (InR_of (by assumption) h0 h1)).mono ?_; rintro e w' ⟨t, n, ht, rfl, rfl⟩; have HT := Lib.hid ht; clear ht) | go_in)
  go_ret
  rename_i r j hu u j2 hd
  exact ⟨_, _, lgN_of hu h0 h1 HT.out hd, hd.2, rfl, rfl⟩
end Go.Proofs.Ytdemahghjgghkaa
