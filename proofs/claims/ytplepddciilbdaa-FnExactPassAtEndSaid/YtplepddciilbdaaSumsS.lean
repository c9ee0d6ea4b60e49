/- Sums over the cells of a rod, as the specification tells. -/
import Derived.Test.YtplepddciilbdaaSums
namespace Go.Proofs.Ytplepddciilbdaa
open Go.RowKit
set_option linter.unusedVariables false

theorem specSumW_any {n b0 o0 k0 b1 o1 k1 b2 o2 k2 b3 o3 k3 : Nat} (r : RL)  (w : World) (h : Lay w n b0 o0 k0 b1 o1 k1 b2 o2 k2 b3 o3 k3 r) (hq : n ≤ 48) :
    Calls Try.prog 57 #[.slice (some ⟨b0, o0, none⟩) n k0] w (FlD (sumT (tW r) n) w) := by
  have Z := Lib.hid h
  have Su := Lib.hid (sumT_succ (tW r))
  have S0 : Hid (cn .f32 0 = sumT (tW r) 0) := Lib.hid rfl
  clear h
  have TF : Hid (∀ k, tW r k = cn .f32 (r.W.getD k 0)) := Lib.hid (fun k => rfl)
  generalize sumT (tW r) = S at *
  generalize tW r = T at *
  have G := Lib.hid hq
  clear hq
  go_enter Try.func57, Try.ntmps57
  go_wp2
  go_loopw [3, 4] (fun s i wr => ∃ k x m : Nat, k ≤ n ∧ i = .int .i64 k ∧ s = .float .f32 x ∧ Hid (cn .f32 x = S k) ∧ wr = w.drewN m) (fun _ i _ => n - (intOf i).toNat)
  case atStart => exact ⟨0, 0, 0, Nat.zero_le _, rfl, rfl, S0, rfl⟩
  case round =>
    obtain ⟨k, x, m, hk, rfl, rfl, hx, rfl⟩ := hrel
    have hG := G.out
    by_cases hlt : k < n
    · have TFk := Lib.hid (TF.out k)
      have zW := Z.out.W k hlt
      generalize r.W.getD k 0 = yW at *
      have hi : (0 : Int) ≤ (k : Int) := by omega
      have hi' : (k : Int) < (n : Int) := by omega
      go_wp2_with (refine wpList_farith rfl _ _ _ _ _ rfl rfl _ _ _ rfl rfl ?_; intro _ _ _)
      rename_i h1
      go_roundw
      case rel => exact ⟨k + 1, _, _, by omega, by go_num, rfl, Lib.hid (by rw [h1.1, hx.out, Su.out, TFk.out]), rfl⟩
      case measure => simp [intOf]; omega
    · have e := Lib.hid (show k = n by omega)
      go_wp2
      go_ret
      have := e.out
      subst this
      exact ⟨_, hx.out, rfl, _, rfl⟩

theorem specHeat_any {n b0 o0 k0 b1 o1 k1 b2 o2 k2 b3 o3 k3 : Nat} (r : RL) (p : Nat) (w : World) (A : Cells w p [.slice (some ⟨b0, o0, none⟩) n k0, .slice (some ⟨b1, o1, none⟩) n k1, .slice (some ⟨b2, o2, none⟩) n k2, .slice (some ⟨b3, o3, none⟩) n k3]) (h : Lay w n b0 o0 k0 b1 o1 k1 b2 o2 k2 b3 o3 k3 r) (hq : n ≤ 48) :
    Calls Try.prog 61 #[.pointer (some ⟨p, 0, none⟩)] w (FlD (sumT (tQ r) n) w) := by
  have Z := Lib.hid h
  have Su := Lib.hid (sumT_succ (tQ r))
  have S0 : Hid (cn .f32 0 = sumT (tQ r) 0) := Lib.hid rfl
  have c0 := A.at 0 rfl
  have c2 := A.at 2 rfl
  have c3 := A.at 3 rfl
  clear A
  clear h
  have TF : Hid (∀ k, tQ r k = fop .mul .f32 (fop .mul .f32 (cn .f32 (r.W.getD k 0)) (cn .f32 (r.H.getD k 0))) (cn .f32 (r.T.getD k 0))) := Lib.hid (fun k => rfl)
  generalize sumT (tQ r) = S at *
  generalize tQ r = T at *
  have G := Lib.hid hq
  clear hq
  go_enter Try.func61, Try.ntmps61
  go_wp2
  go_loopw [3, 4] (fun s i wr => ∃ k x m : Nat, k ≤ n ∧ i = .int .i64 k ∧ s = .float .f32 x ∧ Hid (cn .f32 x = S k) ∧ wr = w.drewN m) (fun _ i _ => n - (intOf i).toNat)
  case atStart => exact ⟨0, 0, 0, Nat.zero_le _, rfl, rfl, S0, rfl⟩
  case round =>
    obtain ⟨k, x, m, hk, rfl, rfl, hx, rfl⟩ := hrel
    have hG := G.out
    by_cases hlt : k < n
    · have TFk := Lib.hid (TF.out k)
      have zW := Z.out.W k hlt
      have zH := Z.out.H k hlt
      have zT := Z.out.T k hlt
      generalize r.W.getD k 0 = yW at *
      generalize r.H.getD k 0 = yH at *
      generalize r.T.getD k 0 = yT at *
      have hi : (0 : Int) ≤ (k : Int) := by omega
      have hi' : (k : Int) < (n : Int) := by omega
      go_wp2
      refine wp_region_loose (fun _ _ _ => True) (by kernel_rfl) (by kernel_rfl) ?_
      repeat (first | (refine wpLoose_farith rfl _ _ _ _ _ rfl rfl _ _ _ rfl rfl ?_; intro _ _) | (refine wpLoose_valK rfl ?_ (fun w1 hw1 => ?_) (fun K hK => ?_); rotate_left; (focus (obtain ⟨nq, rfl⟩ := hw1; go_simp; first | done | rfl)); go_simp; refine hK _ ?_; clear hK K))
      (refine wpLoose_nil ?_; rintro _ ⟨nq, rfl⟩)
      go_wp2
      rename_i r1 h1 r2 h2 r3 h3
      go_roundw
      case rel => exact ⟨k + 1, _, _, by omega, by go_num, rfl, Lib.hid (by rw [h3.1, hx.out, h2.1, h1.1, Su.out, TFk.out]), rfl⟩
      case measure => simp [intOf]; omega
    · have e := Lib.hid (show k = n by omega)
      go_wp2
      go_ret
      have := e.out
      subst this
      exact ⟨_, hx.out, rfl, _, rfl⟩

theorem specHin_any {n b0 o0 k0 b1 o1 k1 b2 o2 k2 b3 o3 k3 : Nat} (r : RL) (p : Nat) (w : World) (A : Cells w p [.slice (some ⟨b0, o0, none⟩) n k0, .slice (some ⟨b1, o1, none⟩) n k1, .slice (some ⟨b2, o2, none⟩) n k2, .slice (some ⟨b3, o3, none⟩) n k3]) (h : Lay w n b0 o0 k0 b1 o1 k1 b2 o2 k2 b3 o3 k3 r) (hq : n ≤ 48) :
    Calls Try.prog 64 #[.pointer (some ⟨p, 0, none⟩)] w (FlD (sumT (tN r) n) w) := by
  have Z := Lib.hid h
  have Su := Lib.hid (sumT_succ (tN r))
  have S0 : Hid (cn .f32 0 = sumT (tN r) 0) := Lib.hid rfl
  have c0 := A.at 0 rfl
  have c1 := A.at 1 rfl
  clear A
  clear h
  have TF : Hid (∀ k, tN r k = fop .quo .f32 (cn .f32 (r.W.getD k 0)) (cn .f32 (r.E.getD k 0))) := Lib.hid (fun k => rfl)
  generalize sumT (tN r) = S at *
  generalize tN r = T at *
  have G := Lib.hid hq
  clear hq
  go_enter Try.func64, Try.ntmps64
  go_wp2
  go_loopw [3, 4] (fun s i wr => ∃ k x m : Nat, k ≤ n ∧ i = .int .i64 k ∧ s = .float .f32 x ∧ Hid (cn .f32 x = S k) ∧ wr = w.drewN m) (fun _ i _ => n - (intOf i).toNat)
  case atStart => exact ⟨0, 0, 0, Nat.zero_le _, rfl, rfl, S0, rfl⟩
  case round =>
    obtain ⟨k, x, m, hk, rfl, rfl, hx, rfl⟩ := hrel
    have hG := G.out
    by_cases hlt : k < n
    · have TFk := Lib.hid (TF.out k)
      have zW := Z.out.W k hlt
      have zE := Z.out.E k hlt
      generalize r.W.getD k 0 = yW at *
      generalize r.E.getD k 0 = yE at *
      have hi : (0 : Int) ≤ (k : Int) := by omega
      have hi' : (k : Int) < (n : Int) := by omega
      go_wp2
      refine wp_region_loose (fun _ _ _ => True) (by kernel_rfl) (by kernel_rfl) ?_
      repeat (first | (refine wpLoose_farith rfl _ _ _ _ _ rfl rfl _ _ _ rfl rfl ?_; intro _ _) | (refine wpLoose_valK rfl ?_ (fun w1 hw1 => ?_) (fun K hK => ?_); rotate_left; (focus (obtain ⟨nq, rfl⟩ := hw1; go_simp; first | done | rfl)); go_simp; refine hK _ ?_; clear hK K))
      (refine wpLoose_nil ?_; rintro _ ⟨nq, rfl⟩)
      go_wp2
      rename_i r1 h1 r2 h2
      go_roundw
      case rel => exact ⟨k + 1, _, _, by omega, by go_num, rfl, Lib.hid (by rw [h2.1, hx.out, h1.1, Su.out, TFk.out]), rfl⟩
      case measure => simp [intOf]; omega
    · have e := Lib.hid (show k = n by omega)
      go_wp2
      go_ret
      have := e.out
      subst this
      exact ⟨_, hx.out, rfl, _, rfl⟩

end Go.Proofs.Ytplepddciilbdaa
