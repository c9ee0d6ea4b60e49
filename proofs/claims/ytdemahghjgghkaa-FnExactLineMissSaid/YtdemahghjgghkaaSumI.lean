/- Sums of numbers, from left to right. -/
import Derived.Test.YtdemahghjgghkaaSl
namespace Go.Proofs.Ytdemahghjgghkaa
open Go.RowKit

def sumF (zs : List Nat) : Nat := zs.foldl (fun s z => fop .add .f32 s (cn .f32 z)) (cn .f32 0)
theorem sumF_succ (zs : List Nat) (k : Nat) (h : k < zs.length) : sumF (zs.take (k + 1)) = fop .add .f32 (sumF (zs.take k)) (cn .f32 (zs.getD k 0)) := by
  unfold sumF
  rw [List.take_succ_eq_append_getElem h, List.foldl_append]
  simp [List.getD_eq_getElem?_getD, h]

/-- a number and a bool, and the world is as it was but for questions -/
def FloB (S : Nat) (b : Bool) (w : World) (e : Ending) (w' : World) : Prop := ∃ r n, cn .f32 r = S ∧ e = .returned (.tuple #[.float .f32 r, .bool b]) ∧ w' = w.drewN n
def FloS (S : Nat) (w : World) (e : Ending) (w' : World) : Prop := ∃ r n, cn .f32 r = S ∧ e = .returned (.float .f32 r) ∧ w' = w.drewN n

theorem implSum_few (v : Value) (zs : List Nat) (w : World) (h : FRow w v zs) (hl : zs.length ≤ 256) : Calls Try.prog 60 #[v] w (FloB (sumF zs) true w) := by
  rcases h with ⟨⟨a0, c0, rfl⟩, rfl⟩ | ⟨b, off, cap, rfl, hm, hc⟩
  · go_enter Try.func60, Try.ntmps60
    go_wp2
    go_loop [4, 12] (fun s i => i = .int .i64 0 ∧ s = .float .f32 0) (fun _ _ => 0)
    case atStart => exact ⟨rfl, rfl⟩
    case round =>
      obtain ⟨rfl, rfl⟩ := hrel
      go_wp2
      go_ret2
      exact ⟨0, 0, rfl, rfl, rfl⟩
  · unfold maxLen at hm
    have Hsum := Lib.hid (fun k (h : k < zs.length) => sumF_succ zs k h)
    have Htake : Hid (zs.take zs.length = zs) := Lib.hid (List.take_length)
    have H0 : Hid (cn .f32 0 = sumF (zs.take 0)) := Lib.hid rfl
    generalize hn : zs.length = n at *
    clear hn
    go_enter Try.func60, Try.ntmps60
    go_wp2
    go_loopw [4, 6, 12] (fun s _ i wr => ∃ k r q : Nat, k ≤ n ∧ i = .int .i64 k ∧ s = .float .f32 r ∧ Hid (cn .f32 r = sumF (zs.take k)) ∧ wr = w.drewN q) (fun _ _ i _ => n - (intOf i).toNat)
    case atStart => exact ⟨0, 0, 0, Nat.zero_le _, rfl, rfl, H0, rfl⟩
    case round =>
      obtain ⟨k, r, q, hk, rfl, rfl, hr, rfl⟩ := hrel
      by_cases hlt : k < n
      · have h1 := hc k hlt
        have hs := Lib.hid (Hsum.out k hlt)
        clear hc
        go_wp2_with (refine wpList_farith rfl _ _ _ _ _ rfl rfl _ _ _ rfl rfl ?_; intro _ _ _)
        rename_i r' j hfr
        go_roundw
        case rel => exact ⟨k + 1, r', _, by omega, by go_num, rfl, Lib.hid (by rw [hs.out, ← hr.out, hfr.1]; simp), rfl⟩
        case measure => simp [intOf]; omega
      · have e := Lib.hid (show k = n by omega)
        clear hc
        go_wp2
        go_ret2
        have := e.out
        subst this
        exact ⟨r, _, by rw [hr.out, Htake.out], rfl, rfl⟩

theorem implSum_many (v : Value) (zs : List Nat) (w : World) (h : FRow w v zs) (hl : 256 < zs.length) : Calls Try.prog 60 #[v] w (FloB (cn .f32 0) false w) := by
  obtain ⟨a, cap, rfl⟩ := h.shape
  clear h
  go_enter Try.func60, Try.ntmps60
  go_wp2
  go_ret2
  exact ⟨0, 0, rfl, rfl, rfl⟩

end Go.Proofs.Ytdemahghjgghkaa
