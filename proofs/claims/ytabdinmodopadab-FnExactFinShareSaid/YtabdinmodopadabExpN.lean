/- The exponential function of a not-a-number, and of any number: what is told of it. -/
import Derived.Test.YtabdinmodopadabExpB
namespace Go.Proofs.Ytabdinmodopadab
open Go Go.RowKit
set_option linter.unusedVariables false

theorem fr_nanl {op : BinOp} {k : FloatKind} {m n r : Nat} (h : FR op k m n r) (hm : nn k m = true) : nn k r = true := by
  have e := h.1
  unfold fop at e
  rw [floatBits_nan_left (by rw [nn_cn]; exact hm), Option.getD_none] at e
  rw [← nn_cn, e]; exact nn_qn k
theorem fr_nanr {op : BinOp} {k : FloatKind} {m n r : Nat} (h : FR op k m n r) (hm : nn k n = true) : nn k r = true := by
  have e := h.1
  unfold fop at e
  rw [floatBits_nan_right (by rw [nn_cn]; exact hm), Option.getD_none] at e
  rw [← nn_cn, e]; exact nn_qn k
theorem ord_nan64 {x : Nat} (h : nn .f64 x = true) (y : Nat) : FloatKind.f64.format.order x y = none := by rw [ord_key, h]; rfl
theorem specExp_nan (x : Nat) (w : World) (hn : nn .f64 x = true) : Calls Try.prog 104 #[.float .f64 x] w (Flw (fun t => nn .f64 t = true) w) := by
  have o0 := ord_nan64 hn x
  have HX := Lib.hid hn
  clear hn
  go_enter Try.func104, Try.ntmps104
  go_wp2
  go_ret
  exact ⟨x, 0, HX.out, rfl, rfl⟩
set_option maxRecDepth 20000 in
set_option maxHeartbeats 1000000 in
theorem implExp_nan (x : Nat) (w : World) (hn : nn .f64 x = true) : Calls Try.prog 107 #[.float .f64 x] w (Flw (fun t => nn .f64 t = true) w) := by
  have o0 := ord_nan64 hn 4641240890982006784
  have o1 := ord_nan64 hn 13864612927836782592
  have HX := Lib.hid hn
  clear hn
  go_enter Try.func107, Try.ntmps107
  go_wp2_with (refine wpList_farith rfl _ _ _ _ _ rfl rfl _ _ _ rfl rfl ?_; intro t0 j0 f0)
  have T := Lib.hid (fr_nanl f0 HX.out)
  clear f0
  go_loopw [4, 5] (fun p k wr => ∃ i pv n : Nat, i ≤ 12 ∧ k = .int .i64 (12 - (i : Int)) ∧ p = .float .f64 pv ∧ wr = w.drewN n ∧ Hid (i = 0 ∨ nn .f64 pv = true)) (fun _ k _ => (intOf k).toNat)
  case atStart => exact ⟨0, 4607182418800017408, _, by omega, rfl, rfl, rfl, Lib.hid (.inl rfl)⟩
  case round =>
    obtain ⟨i, pv, n, hi, rfl, rfl, rfl, hp⟩ := hrel
    by_cases hk : i < 12
    · go_wp2_with (refine wpList_farith rfl _ _ _ _ _ rfl rfl _ _ _ rfl rfl ?_; intro _ _ _)
      rename_i r1 j1 f1 r2 j2 f2 r3 j3 f3
      go_roundw
      case rel => exact ⟨i + 1, r3, _, by omega, by go_num, rfl, rfl, Lib.hid (.inr (fr_nanr f3 (fr_nanl f2 (fr_nanl f1 T.out))))⟩
      case measure => simp [intOf]; omega
    · have hp2 := Lib.hid (show nn .f64 pv = true by rcases hp.out with h | h; omega; exact h)
      go_wp2_with (refine wpList_farith rfl _ _ _ _ _ rfl rfl _ _ _ rfl rfl ?_; intro _ _ _)
      go_loopw [4, 24] (fun p k wr => ∃ i pv n : Nat, i ≤ 8 ∧ k = .int .i64 (i : Int) ∧ p = .float .f64 pv ∧ wr = w.drewN n ∧ Hid (nn .f64 pv = true)) (fun _ k _ => (8 - intOf k).toNat)
      case atStart => exact ⟨0, pv, _, by omega, rfl, rfl, rfl, hp2⟩
      case round =>
        obtain ⟨i2, pv2, n2, hi2, rfl, rfl, rfl, hq⟩ := hrel
        by_cases hk2 : i2 < 8
        · go_wp2_with (refine wpList_farith rfl _ _ _ _ _ rfl rfl _ _ _ rfl rfl ?_; intro _ _ _)
          rename_i r1 j1 f1
          go_roundw
          case rel => exact ⟨i2 + 1, r1, _, by omega, by go_num, rfl, rfl, Lib.hid (fr_nanl f1 hq.out)⟩
          case measure => simp [intOf]; omega
        · go_wp2_with (refine wpList_farith rfl _ _ _ _ _ rfl rfl _ _ _ rfl rfl ?_; intro _ _ _)
          go_ret
          exact ⟨pv2, _, hq.out, rfl, rfl⟩
theorem dr_nan {t u : Nat} (h : DR t u) (ht : nn .f64 t = true) : cn .f32 u = 2143289344 := by
  have hc : cn .f64 t = qn .f64 := cn_of_nan ht
  have := h.1 (by rw [hc]; exact ovf_nan (nn_qn _))
  rw [this, hc]; decide +kernel
theorem exps_nan (a : Nat) (hn : nn .f32 a = true) (w : World) : Calls Try.prog 59 #[.float .f32 a] w (ExV 2143289344 w) ∧ Calls Try.prog 64 #[.float .f32 a] w (ExV 2143289344 w) := by
  have HU := Lib.hid (show ∀ r, UR a r → nn .f64 r = true from fun r h => by rw [nn_up h]; exact hn)
  clear hn
  constructor
  · go_enter Try.func59, Try.ntmps59
    go_wp2_with (first | (refine wpList_up rfl Try.underlying23 Try.underlying33 _ rfl _ rfl ?_; intro _ _ _) | (refine wpList_down rfl Try.underlying33 Try.underlying23 _ rfl _ rfl ?_; intro _ _ _) | (go_at_call 104; refine (specExp_nan _ _ (HU.out _ (by assumption))).mono ?_; rintro e w' ⟨t, n, ht, rfl, rfl⟩; have HT := Lib.hid ht; clear ht) | go_in)
    go_ret
    rename_i r j hu u j2 hd
    exact ⟨_, _, dr_nan hd HT.out, rfl, rfl⟩
  · go_enter Try.func64, Try.ntmps64
    go_wp2_with (first | (refine wpList_up rfl Try.underlying23 Try.underlying33 _ rfl _ rfl ?_; intro _ _ _) | (refine wpList_down rfl Try.underlying33 Try.underlying23 _ rfl _ rfl ?_; intro _ _ _) | (go_at_call 107; refine (implExp_nan _ _ (HU.out _ (by assumption))).mono ?_; rintro e w' ⟨t, n, ht, rfl, rfl⟩; have HT := Lib.hid ht; clear ht))
    go_ret
    rename_i r j hu u j2 hd
    exact ⟨_, _, dr_nan hd HT.out, rfl, rfl⟩
/-- a number, any one -/
def ExA (w : World) (e : Ending) (w' : World) : Prop := ∃ r n, e = .returned (.float .f32 r) ∧ w' = w.drewN n
theorem exps_any (a : Nat) (w : World) : Calls Try.prog 59 #[.float .f32 a] w (ExA w) ∧ Calls Try.prog 64 #[.float .f32 a] w (ExA w) := by
  cases hn : nn .f32 a
  · have HU := Lib.hid (show ∀ r, UR a r → nn .f64 r = false from fun r h => by rw [nn_up h]; exact hn)
    clear hn
    constructor
    · go_enter Try.func59, Try.ntmps59
      go_wp2_with (first | (refine wpList_up rfl Try.underlying23 Try.underlying33 _ rfl _ rfl ?_; intro _ _ _) | (refine wpList_down rfl Try.underlying33 Try.underlying23 _ rfl _ rfl ?_; intro _ _ _) | (go_at_call 104; refine (specExp_any _ _ (HU.out _ (by assumption))).mono ?_; rintro e w' ⟨t, n, ht, rfl, rfl⟩; clear ht) | go_in)
      go_ret
      exact ⟨_, _, rfl, rfl⟩
    · go_enter Try.func64, Try.ntmps64
      go_wp2_with (first | (refine wpList_up rfl Try.underlying23 Try.underlying33 _ rfl _ rfl ?_; intro _ _ _) | (refine wpList_down rfl Try.underlying33 Try.underlying23 _ rfl _ rfl ?_; intro _ _ _) | (go_at_call 107; refine (implExp_any _ _ (HU.out _ (by assumption))).mono ?_; rintro e w' ⟨t, n, ht, rfl, rfl⟩; clear ht))
      go_ret
      exact ⟨_, _, rfl, rfl⟩
  · obtain ⟨h1, h2⟩ := exps_nan a hn w
    exact ⟨h1.mono fun _ _ ⟨r, n, _, he, hw⟩ => ⟨r, n, he, hw⟩, h2.mono fun _ _ ⟨r, n, _, he, hw⟩ => ⟨r, n, he, hw⟩⟩
end Go.Proofs.Ytabdinmodopadab
