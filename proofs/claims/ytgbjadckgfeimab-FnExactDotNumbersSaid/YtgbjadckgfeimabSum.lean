/- Sums of numbers, from left to right. -/
import Derived.Test.YtgbjadckgfeimabSl
namespace Go.Proofs.Ytgbjadckgfeimab
open Go.RowKit

def sumF (zs : List Nat) : Nat := zs.foldl (fun s z => fop .add .f32 s (cn .f32 z)) (cn .f32 0)
theorem sumF_succ (zs : List Nat) (k : Nat) (h : k < zs.length) : sumF (zs.take (k + 1)) = fop .add .f32 (sumF (zs.take k)) (cn .f32 (zs.getD k 0)) := by
  unfold sumF
  rw [List.take_succ_eq_append_getElem h, List.foldl_append]
  simp [List.getD_eq_getElem?_getD, h]

/-- a number and a bool, and the world is as it was but for questions -/
def FloB (S : Nat) (b : Bool) (w : World) (e : Ending) (w' : World) : Prop := ∃ r n, cn .f32 r = S ∧ e = .returned (.tuple #[.float .f32 r, .bool b]) ∧ w' = w.drewN n
def FloS (S : Nat) (w : World) (e : Ending) (w' : World) : Prop := ∃ r n, cn .f32 r = S ∧ e = .returned (.float .f32 r) ∧ w' = w.drewN n

theorem specSum_any (v : Value) (zs : List Nat) (w : World) (h : FRow w v zs) : Calls Try.prog 30 #[v] w (FloS (sumF zs) w) := by
  rcases h with ⟨⟨a0, c0, rfl⟩, rfl⟩ | ⟨b, off, cap, rfl, hm, hc⟩
  · go_enter Try.func30, Try.ntmps30
    go_wp2
    go_loop [3, 4] (fun s i => i = .int .i64 0 ∧ s = .float .f32 0) (fun _ _ => 0)
    case atStart => exact ⟨rfl, rfl⟩
    case round =>
      obtain ⟨rfl, rfl⟩ := hrel
      go_wp2
      go_ret
      exact ⟨0, 0, rfl, rfl, rfl⟩
  · unfold maxLen at hm
    have Hsum := Lib.hid (fun k (h : k < zs.length) => sumF_succ zs k h)
    have Htake : Hid (zs.take zs.length = zs) := Lib.hid (List.take_length)
    have H0 : Hid (cn .f32 0 = sumF (zs.take 0)) := Lib.hid rfl
    generalize hn : zs.length = n at *
    clear hn
    go_enter Try.func30, Try.ntmps30
    go_wp2
    go_loopw [3, 4] (fun s i wr => ∃ k r q : Nat, k ≤ n ∧ i = .int .i64 k ∧ s = .float .f32 r ∧ Hid (cn .f32 r = sumF (zs.take k)) ∧ wr = w.drewN q) (fun _ i _ => n - (intOf i).toNat)
    case atStart => exact ⟨0, 0, 0, Nat.zero_le _, rfl, rfl, H0, rfl⟩
    case round =>
      obtain ⟨k, r, q, hk, rfl, rfl, hr, rfl⟩ := hrel
      by_cases hlt : k < n
      · have h1 := hc k hlt
        have hs := Lib.hid (Hsum.out k hlt)
        clear hc
        go_wp2_with (refine wpList_farith rfl _ _ _ _ _ rfl rfl _ _ _ rfl rfl ?_; intro _ _ _)
        rename_i r' j hfr
        go_roundw
        case rel => exact ⟨k + 1, r', _, by omega, by go_num, rfl, Lib.hid (by rw [hs.out, ← hr.out, hfr.1]; simp), rfl⟩
        case measure => simp [intOf]; omega
      · have e := Lib.hid (show k = n by omega)
        clear hc
        go_wp2
        go_ret
        have := e.out
        subst this
        exact ⟨r, _, by rw [hr.out, Htake.out], rfl, rfl⟩

theorem implSum_few (v : Value) (zs : List Nat) (w : World) (h : FRow w v zs) (hl : zs.length ≤ 256) : Calls Try.prog 12 #[v] w (FloB (sumF zs) true w) := by
  rcases h with ⟨⟨a0, c0, rfl⟩, rfl⟩ | ⟨b, off, cap, rfl, hm, hc⟩
  · go_enter Try.func12, Try.ntmps12
    go_wp2
    go_loop [4, 12] (fun s i => i = .int .i64 0 ∧ s = .float .f32 0) (fun _ _ => 0)
    case atStart => exact ⟨rfl, rfl⟩
    case round =>
      obtain ⟨rfl, rfl⟩ := hrel
      go_wp2
      go_ret2
      exact ⟨0, 0, rfl, rfl, rfl⟩
  · unfold maxLen at hm
    have Hsum := Lib.hid (fun k (h : k < zs.length) => sumF_succ zs k h)
    have Htake : Hid (zs.take zs.length = zs) := Lib.hid (List.take_length)
    have H0 : Hid (cn .f32 0 = sumF (zs.take 0)) := Lib.hid rfl
    generalize hn : zs.length = n at *
    clear hn
    go_enter Try.func12, Try.ntmps12
    go_wp2
    go_loopw [4, 6, 12] (fun s _ i wr => ∃ k r q : Nat, k ≤ n ∧ i = .int .i64 k ∧ s = .float .f32 r ∧ Hid (cn .f32 r = sumF (zs.take k)) ∧ wr = w.drewN q) (fun _ _ i _ => n - (intOf i).toNat)
    case atStart => exact ⟨0, 0, 0, Nat.zero_le _, rfl, rfl, H0, rfl⟩
    case round =>
      obtain ⟨k, r, q, hk, rfl, rfl, hr, rfl⟩ := hrel
      by_cases hlt : k < n
      · have h1 := hc k hlt
        have hs := Lib.hid (Hsum.out k hlt)
        clear hc
        go_wp2_with (refine wpList_farith rfl _ _ _ _ _ rfl rfl _ _ _ rfl rfl ?_; intro _ _ _)
        rename_i r' j hfr
        go_roundw
        case rel => exact ⟨k + 1, r', _, by omega, by go_num, rfl, Lib.hid (by rw [hs.out, ← hr.out, hfr.1]; simp), rfl⟩
        case measure => simp [intOf]; omega
      · have e := Lib.hid (show k = n by omega)
        clear hc
        go_wp2
        go_ret2
        have := e.out
        subst this
        exact ⟨r, _, by rw [hr.out, Htake.out], rfl, rfl⟩

theorem implSum_many (v : Value) (zs : List Nat) (w : World) (h : FRow w v zs) (hl : 256 < zs.length) : Calls Try.prog 12 #[v] w (FloB (cn .f32 0) false w) := by
  obtain ⟨a, cap, rfl⟩ := h.shape
  clear h
  go_enter Try.func12, Try.ntmps12
  go_wp2
  go_ret2
  exact ⟨0, 0, rfl, rfl, rfl⟩

theorem few_any (v : Value) (zs : List Nat) (w : World) (h : FRow w v zs) : Calls Try.prog 29 #[v] w fun e w' => e = .returned (.bool (decide (zs.length ≤ 256))) ∧ w = w' := by
  obtain ⟨a, cap, rfl⟩ := h.shape
  clear h
  go_enter Try.func29, Try.ntmps29
  go_wp2
  go_ret
  exact ⟨by simp; omega, rfl⟩

theorem specSumN_few (v : Value) (zs : List Nat) (w : World) (h : FRow w v zs) (hl : zs.length ≤ 256) : Calls Try.prog 10 #[v] w (FloB (sumF zs) true w) := by
  have hd := decide_eq_true hl
  go_enter Try.func10, Try.ntmps10
  go_wp2_with (first | (go_at_call 29; refine (few_any _ zs _ h).mono ?_; rw [hd]; rintro e w' ⟨rfl, rfl⟩) | (go_at_call 30; refine (specSum_any _ zs _ h).mono ?_; rintro e w' ⟨r, n, hr, rfl, rfl⟩; have Hr := Lib.hid hr; clear hr))
  go_ret2
  exact ⟨_, _, Hr.out, rfl, rfl⟩

theorem specSumN_many (v : Value) (zs : List Nat) (w : World) (h : FRow w v zs) (hl : 256 < zs.length) : Calls Try.prog 10 #[v] w (FloB (cn .f32 0) false w) := by
  have hd : decide (zs.length ≤ 256) = false := decide_eq_false (by omega)
  go_enter Try.func10, Try.ntmps10
  go_wp2_with (go_at_call 29; refine (few_any _ zs _ h).mono ?_; rw [hd]; rintro e w' ⟨rfl, rfl⟩)
  go_ret2
  exact ⟨0, 0, rfl, rfl, rfl⟩

theorem sums_agree (zs : List Nat) : ∃ S b, ∀ v w, FRow w v zs → Calls Try.prog 10 #[v] w (FloB S b w) ∧ Calls Try.prog 12 #[v] w (FloB S b w) := by
  by_cases hl : zs.length ≤ 256
  · exact ⟨_, _, fun v w h => ⟨specSumN_few v zs w h hl, implSum_few v zs w h hl⟩⟩
  · exact ⟨_, _, fun v w h => ⟨specSumN_many v zs w h (by omega), implSum_many v zs w h (by omega)⟩⟩

theorem FRow.kept {w w' : World} {v : Value} {zs : List Nat} (h : FRow w v zs) (hb : Below w.heap.size w w') : FRow w' v zs := h.below hb

theorem fnExactSumNumbers_walk (v : Value) (zs : List Nat) (w : World) (h : FRow w v zs) :
    Calls Try.prog 4 #[v] w (Tru w) := by
  by_cases hl : zs.length ≤ 1048576
  · obtain ⟨a, cap, hv⟩ := h.shape
    obtain ⟨S, b, hh⟩ := sums_agree zs
    have H := Lib.hid hh
    have HF := Lib.hid h
    subst hv
    clear hh h
    go_enter Try.func4, Try.ntmps4
    go_wp2_with fail
    refine (toF_any _ zs _ HF.out hl).mono ?_
    rintro _ w1 ⟨x1, rfl, hx1, hb1⟩
    have A1 := Lib.hid (HF.out.below hb1)
    have X1 := Lib.hid hx1
    have B1 := Lib.hid hb1
    clear hx1 hb1
    go_wp2_with fail
    refine ((H.out _ _ X1.out).1).mono ?_
    rintro _ _ ⟨r1, n1, hr1, rfl, rfl⟩
    have R1 := Lib.hid hr1
    clear hr1
    go_wp2_with fail
    refine (toF_any _ zs _ A1.out.drewN hl).mono ?_
    rintro _ w2 ⟨x2, rfl, hx2, hb2⟩
    have A2 := Lib.hid (A1.out.below (below_undrew hb2))
    have X2 := Lib.hid hx2
    have B2 := Lib.hid (below_step B1.out (below_undrew hb2))
    clear hx2 hb2
    go_wp2_with fail
    refine ((H.out _ _ X2.out).2).mono ?_
    rintro _ _ ⟨r2, n2, hr2, rfl, rfl⟩
    have R2 := Lib.hid hr2
    clear hr2
    go_wp2_with (first | (refine wpList_up rfl Try.underlying22 Try.underlying25 _ rfl _ rfl ?_; intro _ _ _) | (go_at_call 9; refine (same_end (a := r2) (b := r1) _ (by assumption) (by assumption) (R2.out.trans R1.out.symm)).mono ?_; rintro e w' ⟨rfl, n, rfl⟩))
    refine (toF_any _ zs _ A2.out.drewN hl).mono ?_
    rintro _ w3 ⟨x3, rfl, hx3, hb3⟩
    have X3 := Lib.hid hx3
    have Y3 := Lib.hid (X2.out.below (below_undrew hb3))
    have B3 := Lib.hid (below_step B2.out (below_undrew hb3))
    clear hx3 hb3
    go_wp2_with fail
    refine (eqF_any _ _ zs zs _ Y3.out X3.out (SameList.refl zs)).mono ?_
    rintro _ _ ⟨rfl, n3, rfl⟩
    go_wp2
    go_ret
    exact Tru.below (below_drewN B3.out _)
  · obtain ⟨a, cap, rfl⟩ := h.shape
    clear h
    go_enter Try.func4, Try.ntmps4
    go_wp2
    go_ret
    exact Tru.same
end Go.Proofs.Ytgbjadckgfeimab
