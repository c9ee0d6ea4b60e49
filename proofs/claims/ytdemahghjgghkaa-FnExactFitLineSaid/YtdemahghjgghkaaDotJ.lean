/- Sums of the products of two lists, by the program alone, beside its sums. -/
import Derived.Test.YtdemahghjgghkaaSumI
namespace Go.Proofs.Ytdemahghjgghkaa
open Go.RowKit

def dotTo (zs ys : List Nat) : Nat → Nat
  | 0 => cn .f32 0
  | k + 1 => fop .add .f32 (dotTo zs ys k) (fop .mul .f32 (cn .f32 (zs.getD k 0)) (cn .f32 (ys.getD k 0)))

theorem dot_step {zs ys : List Nat} {k r p r' : Nat} (h : cn .f32 r = dotTo zs ys k) (hp : FR .mul .f32 (zs.getD k 0) (ys.getD k 0) p) (hr : FR .add .f32 r p r') : cn .f32 r' = dotTo zs ys (k + 1) := by
  rw [hr.1, hp.1, h, dotTo]

theorem implDot_empty (a a' : Option Addr) (c c' : Nat) (w : World) : Calls Try.prog 61 #[.slice a 0 c, .slice a' 0 c'] w (FloB (cn .f32 0) true w) := by
  go_enter Try.func61, Try.ntmps61
  go_wp2
  go_loop [6, 21] (fun s i => i = .int .i64 0 ∧ s = .float .f32 0) (fun _ _ => 0)
  case atStart => exact ⟨rfl, rfl⟩
  case round =>
    obtain ⟨rfl, rfl⟩ := hrel
    go_wp2
    go_ret2
    exact ⟨0, 0, rfl, rfl, rfl⟩

theorem implDot_rows (zs ys : List Nat) (b off cap b' off' cap' : Nat) (w : World) (n : Nat) (hm : n ≤ maxLen) (hf : n ≤ 256)
    (hc : ∀ i, i < n → w.cell? ⟨b, off + i, none⟩ = some (.float .f32 (zs.getD i 0))) (hc' : ∀ i, i < n → w.cell? ⟨b', off' + i, none⟩ = some (.float .f32 (ys.getD i 0))) :
    Calls Try.prog 61 #[.slice (some ⟨b, off, none⟩) n cap, .slice (some ⟨b', off', none⟩) n cap'] w (FloB (dotTo zs ys n) true w) := by
  unfold maxLen at hm
  have H0 : Hid (cn .f32 0 = dotTo zs ys 0) := Lib.hid rfl
  have hd : decide (256 < (n : Int)) = false := decide_eq_false (by omega)
  go_enter Try.func61, Try.ntmps61
  go_wp2
  go_loopw [6, 7, 8, 21] (fun s _ _ i wr => ∃ k r q : Nat, k ≤ n ∧ i = .int .i64 k ∧ s = .float .f32 r ∧ Hid (cn .f32 r = dotTo zs ys k) ∧ wr = w.drewN q) (fun _ _ _ i _ => n - (intOf i).toNat)
  case atStart => exact ⟨0, 0, 0, Nat.zero_le _, rfl, rfl, H0, rfl⟩
  case round =>
    obtain ⟨k, r, q, hk, rfl, rfl, hr, rfl⟩ := hrel
    by_cases hlt : k < n
    · have h1 := hc k hlt
      have h2 := hc' k hlt
      clear hc hc' H0
      have hi : (0 : Int) ≤ (k : Int) := by omega
      have hi' : (k : Int) < (n : Int) := by omega
      go_wp2_with (refine wpList_farith rfl _ _ _ _ _ rfl rfl _ _ _ rfl rfl ?_; intro _ _ _)
      rename_i p j hp r' j' hfr
      go_roundw
      case rel => exact ⟨k + 1, r', _, by omega, by go_num, rfl, Lib.hid (dot_step hr.out (by simpa using hp) hfr), rfl⟩
      case measure => simp [intOf]; omega
    · have e := Lib.hid (show k = n by omega)
      clear hc hc' H0
      go_wp2
      go_ret2
      have := e.out
      subst this
      exact ⟨r, _, hr.out, rfl, rfl⟩

theorem implDot_any (v v' : Value) (zs ys : List Nat) (w : World) (h : FRow w v zs) (h' : FRow w v' ys) (hl : zs.length = ys.length) (hf : zs.length ≤ 256) : Calls Try.prog 61 #[v, v'] w (FloB (dotTo zs ys zs.length) true w) := by
  by_cases h0 : zs.length = 0
  · obtain rfl : zs = [] := List.length_eq_zero_iff.1 h0
    obtain rfl : ys = [] := List.length_eq_zero_iff.1 hl.symm
    obtain ⟨a, c, rfl⟩ := h.empty
    obtain ⟨a', c', rfl⟩ := h'.empty
    exact implDot_empty a a' c c' w
  · rcases h with ⟨_, rfl⟩ | ⟨b, off, cap, rfl, hm, hc⟩
    · exact absurd rfl h0
    · rcases h' with ⟨_, rfl⟩ | ⟨b', off', cap', rfl, hm', hc'⟩
      · exact absurd hl h0
      · rw [← hl] at hc' ⊢
        exact implDot_rows zs ys b off cap b' off' cap' w zs.length hm hf hc hc'

end Go.Proofs.Ytdemahghjgghkaa
