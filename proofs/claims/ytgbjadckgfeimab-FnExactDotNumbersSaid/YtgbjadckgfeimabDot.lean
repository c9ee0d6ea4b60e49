/- Sums of the products of the numbers of two lists, from left to right. -/
import Derived.Test.YtgbjadckgfeimabSum
namespace Go.Proofs.Ytgbjadckgfeimab
open Go.RowKit

def dotTo (zs ys : List Nat) : Nat → Nat
  | 0 => cn .f32 0
  | k + 1 => fop .add .f32 (dotTo zs ys k) (fop .mul .f32 (cn .f32 (zs.getD k 0)) (cn .f32 (ys.getD k 0)))

theorem dot_step {zs ys : List Nat} {k r p r' : Nat} (h : cn .f32 r = dotTo zs ys k) (hp : FR .mul .f32 (zs.getD k 0) (ys.getD k 0) p) (hr : FR .add .f32 r p r') : cn .f32 r' = dotTo zs ys (k + 1) := by
  rw [hr.1, hp.1, h, dotTo]

theorem specDot_empty (a a' : Option Addr) (c c' n : Nat) (w : World) : Calls Try.prog 31 #[.slice a 0 c, .slice a' n c'] w (FloS (cn .f32 0) w) := by
  go_enter Try.func31, Try.ntmps31
  go_wp2
  go_loop [5, 6] (fun s i => i = .int .i64 0 ∧ s = .float .f32 0) (fun _ _ => 0)
  case atStart => exact ⟨rfl, rfl⟩
  case round =>
    obtain ⟨rfl, rfl⟩ := hrel
    go_wp2
    go_ret
    exact ⟨0, 0, rfl, rfl, rfl⟩

theorem specDot_rows (zs ys : List Nat) (b off cap b' off' cap' : Nat) (w : World) (n : Nat) (hm : n ≤ maxLen)
    (hc : ∀ i, i < n → w.cell? ⟨b, off + i, none⟩ = some (.float .f32 (zs.getD i 0))) (hc' : ∀ i, i < n → w.cell? ⟨b', off' + i, none⟩ = some (.float .f32 (ys.getD i 0))) :
    Calls Try.prog 31 #[.slice (some ⟨b, off, none⟩) n cap, .slice (some ⟨b', off', none⟩) n cap'] w (FloS (dotTo zs ys n) w) := by
  unfold maxLen at hm
  have H0 : Hid (cn .f32 0 = dotTo zs ys 0) := Lib.hid rfl
  go_enter Try.func31, Try.ntmps31
  go_wp2
  go_loopw [5, 6] (fun s i wr => ∃ k r q : Nat, k ≤ n ∧ i = .int .i64 k ∧ s = .float .f32 r ∧ Hid (cn .f32 r = dotTo zs ys k) ∧ wr = w.drewN q) (fun _ i _ => n - (intOf i).toNat)
  case atStart => exact ⟨0, 0, 0, Nat.zero_le _, rfl, rfl, H0, rfl⟩
  case round =>
    obtain ⟨k, r, q, hk, rfl, rfl, hr, rfl⟩ := hrel
    by_cases hlt : k < n
    · have h1 := hc k hlt
      have h2 := hc' k hlt
      clear hc hc' H0
      have hi : (0 : Int) ≤ (k : Int) := by omega
      have hi' : (k : Int) < (n : Int) := by omega
      go_wp2
      refine wp_region_loose (fun _ _ v => v = .bool true) (by kernel_rfl) (by kernel_rfl) ?_
      repeat (first | (refine wpLoose_farith rfl _ _ _ _ _ rfl rfl _ _ _ rfl rfl ?_; intro _ _) | (refine wpLoose_plain rfl (fun K hK => ?_); go_simp; refine hK _ ?_; clear hK K))
      (refine wpLoose_nil ?_; rintro _ ⟨nq, rfl⟩)
      rename_i p hp r' hfr
      go_wp2
      go_roundw
      case rel => exact ⟨k + 1, r', _, by omega, by go_num, rfl, Lib.hid (dot_step hr.out (by simpa using hp) hfr), rfl⟩
      case measure => simp [intOf]; omega
    · have e := Lib.hid (show k = n by omega)
      clear hc hc' H0
      go_wp2
      go_ret
      have := e.out
      subst this
      exact ⟨r, _, hr.out, rfl, rfl⟩

theorem implDot_empty (a a' : Option Addr) (c c' : Nat) (w : World) : Calls Try.prog 15 #[.slice a 0 c, .slice a' 0 c'] w (FloB (cn .f32 0) true w) := by
  go_enter Try.func15, Try.ntmps15
  go_wp2
  go_loop [6, 21] (fun s i => i = .int .i64 0 ∧ s = .float .f32 0) (fun _ _ => 0)
  case atStart => exact ⟨rfl, rfl⟩
  case round =>
    obtain ⟨rfl, rfl⟩ := hrel
    go_wp2
    go_ret2
    exact ⟨0, 0, rfl, rfl, rfl⟩

theorem implDot_rows (zs ys : List Nat) (b off cap b' off' cap' : Nat) (w : World) (n : Nat) (hm : n ≤ maxLen) (hf : n ≤ 256)
    (hc : ∀ i, i < n → w.cell? ⟨b, off + i, none⟩ = some (.float .f32 (zs.getD i 0))) (hc' : ∀ i, i < n → w.cell? ⟨b', off' + i, none⟩ = some (.float .f32 (ys.getD i 0))) :
    Calls Try.prog 15 #[.slice (some ⟨b, off, none⟩) n cap, .slice (some ⟨b', off', none⟩) n cap'] w (FloB (dotTo zs ys n) true w) := by
  unfold maxLen at hm
  have H0 : Hid (cn .f32 0 = dotTo zs ys 0) := Lib.hid rfl
  have hd : decide (256 < (n : Int)) = false := decide_eq_false (by omega)
  go_enter Try.func15, Try.ntmps15
  go_wp2
  go_loopw [6, 7, 8, 21] (fun s _ _ i wr => ∃ k r q : Nat, k ≤ n ∧ i = .int .i64 k ∧ s = .float .f32 r ∧ Hid (cn .f32 r = dotTo zs ys k) ∧ wr = w.drewN q) (fun _ _ _ i _ => n - (intOf i).toNat)
  case atStart => exact ⟨0, 0, 0, Nat.zero_le _, rfl, rfl, H0, rfl⟩
  case round =>
    obtain ⟨k, r, q, hk, rfl, rfl, hr, rfl⟩ := hrel
    by_cases hlt : k < n
    · have h1 := hc k hlt
      have h2 := hc' k hlt
      clear hc hc' H0
      have hi : (0 : Int) ≤ (k : Int) := by omega
      have hi' : (k : Int) < (n : Int) := by omega
      go_wp2_with (refine wpList_farith rfl _ _ _ _ _ rfl rfl _ _ _ rfl rfl ?_; intro _ _ _)
      rename_i p j hp r' j' hfr
      go_roundw
      case rel => exact ⟨k + 1, r', _, by omega, by go_num, rfl, Lib.hid (dot_step hr.out (by simpa using hp) hfr), rfl⟩
      case measure => simp [intOf]; omega
    · have e := Lib.hid (show k = n by omega)
      clear hc hc' H0
      go_wp2
      go_ret2
      have := e.out
      subst this
      exact ⟨r, _, hr.out, rfl, rfl⟩

theorem implDot_no (v v' : Value) (zs ys : List Nat) (w : World) (h : FRow w v zs) (h' : FRow w v' ys) (hn : 256 < zs.length ∨ zs.length ≠ ys.length) : Calls Try.prog 15 #[v, v'] w (FloB (cn .f32 0) false w) := by
  obtain ⟨a, c, rfl⟩ := h.shape
  obtain ⟨a', c', rfl⟩ := h'.shape
  clear h h'
  generalize zs.length = n at *
  generalize ys.length = m at *
  by_cases h1 : 256 < n
  · have hd : decide (256 < (n : Int)) = true := decide_eq_true (by omega)
    go_enter Try.func15, Try.ntmps15
    go_wp2
    go_ret2
    exact ⟨0, 0, rfl, rfl, rfl⟩
  · have hd : decide (256 < (n : Int)) = false := decide_eq_false (by omega)
    have he : ((n : Int) != (m : Int)) = true := by rw [bne_iff_ne]; omega
    have he' : ((n : Int) == (m : Int)) = false := by rw [beq_eq_false_iff_ne]; omega
    clear hn
    go_enter Try.func15, Try.ntmps15
    go_wp2
    go_ret2
    exact ⟨0, 0, rfl, rfl, rfl⟩

theorem specDot_any (v v' : Value) (zs ys : List Nat) (w : World) (h : FRow w v zs) (h' : FRow w v' ys) (hl : zs.length = ys.length) : Calls Try.prog 31 #[v, v'] w (FloS (dotTo zs ys zs.length) w) := by
  by_cases h0 : zs.length = 0
  · obtain rfl : zs = [] := List.length_eq_zero_iff.1 h0
    obtain rfl : ys = [] := List.length_eq_zero_iff.1 hl.symm
    obtain ⟨a, c, rfl⟩ := h.empty
    obtain ⟨a', c', rfl⟩ := h'.empty
    exact specDot_empty a a' c c' 0 w
  · rcases h with ⟨_, rfl⟩ | ⟨b, off, cap, rfl, hm, hc⟩
    · exact absurd rfl h0
    · rcases h' with ⟨_, rfl⟩ | ⟨b', off', cap', rfl, hm', hc'⟩
      · exact absurd hl h0
      · rw [← hl] at hc' ⊢
        exact specDot_rows zs ys b off cap b' off' cap' w zs.length hm hc hc'

theorem implDot_any (v v' : Value) (zs ys : List Nat) (w : World) (h : FRow w v zs) (h' : FRow w v' ys) (hl : zs.length = ys.length) (hf : zs.length ≤ 256) : Calls Try.prog 15 #[v, v'] w (FloB (dotTo zs ys zs.length) true w) := by
  by_cases h0 : zs.length = 0
  · obtain rfl : zs = [] := List.length_eq_zero_iff.1 h0
    obtain rfl : ys = [] := List.length_eq_zero_iff.1 hl.symm
    obtain ⟨a, c, rfl⟩ := h.empty
    obtain ⟨a', c', rfl⟩ := h'.empty
    exact implDot_empty a a' c c' w
  · rcases h with ⟨_, rfl⟩ | ⟨b, off, cap, rfl, hm, hc⟩
    · exact absurd rfl h0
    · rcases h' with ⟨_, rfl⟩ | ⟨b', off', cap', rfl, hm', hc'⟩
      · exact absurd hl h0
      · rw [← hl] at hc' ⊢
        exact implDot_rows zs ys b off cap b' off' cap' w zs.length hm hf hc hc'

theorem specDotN_yes (v v' : Value) (zs ys : List Nat) (w : World) (h : FRow w v zs) (h' : FRow w v' ys) (hl : zs.length = ys.length) (hf : zs.length ≤ 256) : Calls Try.prog 14 #[v, v'] w (FloB (dotTo zs ys zs.length) true w) := by
  have hd := decide_eq_true hf
  obtain ⟨a, c, hv⟩ := h.shape
  obtain ⟨a', c', hv'⟩ := h'.shape
  have H := Lib.hid h
  have H' := Lib.hid h'
  have HL := Lib.hid hl
  rw [← hl] at hv'
  subst hv hv'
  clear h h' hl
  go_enter Try.func14, Try.ntmps14
  go_wp2_with (first | (go_at_call 29; refine (few_any _ zs _ H.out).mono ?_; rw [hd]; rintro e w' ⟨rfl, rfl⟩) | (go_at_call 31; refine (specDot_any _ _ zs ys _ H.out H'.out HL.out).mono ?_; rintro e w' ⟨r, n, hr, rfl, rfl⟩; have Hr := Lib.hid hr; clear hr))
  go_ret2
  exact ⟨_, _, Hr.out, rfl, rfl⟩

theorem specDotN_no (v v' : Value) (zs ys : List Nat) (w : World) (h : FRow w v zs) (h' : FRow w v' ys) (hn : 256 < zs.length ∨ zs.length ≠ ys.length) : Calls Try.prog 14 #[v, v'] w (FloB (cn .f32 0) false w) := by
  obtain ⟨a, c, hv⟩ := h.shape
  obtain ⟨a', c', hv'⟩ := h'.shape
  have H := Lib.hid h
  subst hv hv'
  clear h h'
  by_cases h1 : zs.length ≤ 256
  · have hd := decide_eq_true h1
    have he : ((zs.length : Int) != (ys.length : Int)) = true := by rw [bne_iff_ne]; omega
    have he' : ((zs.length : Int) == (ys.length : Int)) = false := by rw [beq_eq_false_iff_ne]; omega
    clear hn
    go_enter Try.func14, Try.ntmps14
    go_wp2_with (go_at_call 29; refine (few_any _ zs _ H.out).mono ?_; rw [hd]; rintro e w' ⟨rfl, rfl⟩)
    go_ret2
    exact ⟨0, 0, rfl, rfl, rfl⟩
  · have hd := decide_eq_false h1
    clear hn
    go_enter Try.func14, Try.ntmps14
    go_wp2_with (go_at_call 29; refine (few_any _ zs _ H.out).mono ?_; rw [hd]; rintro e w' ⟨rfl, rfl⟩)
    go_ret2
    exact ⟨0, 0, rfl, rfl, rfl⟩

theorem dots_agree (zs ys : List Nat) : ∃ S b, ∀ v v' w, FRow w v zs → FRow w v' ys → Calls Try.prog 14 #[v, v'] w (FloB S b w) ∧ Calls Try.prog 15 #[v, v'] w (FloB S b w) := by
  by_cases hl : zs.length ≤ 256 ∧ zs.length = ys.length
  · exact ⟨_, _, fun v v' w h h' => ⟨specDotN_yes v v' zs ys w h h' hl.2 hl.1, implDot_any v v' zs ys w h h' hl.2 hl.1⟩⟩
  · exact ⟨_, _, fun v v' w h h' => ⟨specDotN_no v v' zs ys w h h' (by omega), implDot_no v v' zs ys w h h' (by omega)⟩⟩

set_option maxHeartbeats 800000 in
theorem fnExactDotNumbers_walk (v : Value) (zs : List Nat) (v' : Value) (ys : List Nat) (w : World) (h : FRow w v zs) (h' : FRow w v' ys) :
    Calls Try.prog 5 #[v, v'] w (Tru w) := by
  obtain ⟨a, cap, hv⟩ := h.shape
  obtain ⟨a', cap', hv'⟩ := h'.shape
  by_cases hl : zs.length ≤ 1048576
  · by_cases hl' : ys.length ≤ 1048576
    · obtain ⟨S, b, hh⟩ := dots_agree zs ys
      have H := Lib.hid hh
      have A0 := Lib.hid h
      have C0 := Lib.hid h'
      subst hv hv'
      clear hh h h'
      go_enter Try.func5, Try.ntmps5
      go_wp2_with fail
      refine (toF_any _ zs _ A0.out hl).mono ?_
      rintro _ w1 ⟨x1, rfl, hx1, hb1⟩
      have A1 := Lib.hid (A0.out.below hb1)
      have C1 := Lib.hid (C0.out.below hb1)
      have X1 := Lib.hid hx1
      have B1 := Lib.hid hb1
      clear hx1 hb1
      go_wp2_with fail
      refine (toF_any _ ys _ C1.out hl').mono ?_
      rintro _ w2 ⟨y1, rfl, hx2, hb2⟩
      have A2 := Lib.hid (A1.out.below hb2)
      have C2 := Lib.hid (C1.out.below hb2)
      have X2 := Lib.hid (X1.out.below hb2)
      have Y2 := Lib.hid hx2
      have B2 := Lib.hid (below_step B1.out hb2)
      clear hx2 hb2
      go_wp2_with fail
      refine ((H.out _ _ _ X2.out Y2.out).1).mono ?_
      rintro _ _ ⟨r1, n1, hr1, rfl, rfl⟩
      have R1 := Lib.hid hr1
      clear hr1
      go_wp2_with fail
      refine (toF_any _ zs _ A2.out.drewN hl).mono ?_
      rintro _ w3 ⟨x3, rfl, hx3, hb3⟩
      have A3 := Lib.hid (A2.out.below (below_undrew hb3))
      have C3 := Lib.hid (C2.out.below (below_undrew hb3))
      have X3 := Lib.hid hx3
      have B3 := Lib.hid (below_step B2.out (below_undrew hb3))
      clear hx3 hb3
      go_wp2_with fail
      refine (toF_any _ ys _ C3.out hl').mono ?_
      rintro _ w4 ⟨y4, rfl, hx4, hb4⟩
      have A4 := Lib.hid (A3.out.below hb4)
      have C4 := Lib.hid (C3.out.below hb4)
      have X4 := Lib.hid (X3.out.below hb4)
      have Y4 := Lib.hid hx4
      have B4 := Lib.hid (below_step B3.out hb4)
      clear hx4 hb4
      go_wp2_with fail
      refine ((H.out _ _ _ X4.out Y4.out).2).mono ?_
      rintro _ _ ⟨r2, n2, hr2, rfl, rfl⟩
      have R2 := Lib.hid hr2
      clear hr2
      go_wp2_with (first | (refine wpList_up rfl Try.underlying22 Try.underlying25 _ rfl _ rfl ?_; intro _ _ _) | (go_at_call 9; refine (same_end (a := r2) (b := r1) _ (by assumption) (by assumption) (R2.out.trans R1.out.symm)).mono ?_; rintro e w' ⟨rfl, n, rfl⟩))
      refine (toF_any _ zs _ A4.out.drewN hl).mono ?_
      rintro _ w5 ⟨x5, rfl, hx5, hb5⟩
      have C5 := Lib.hid (C4.out.below (below_undrew hb5))
      have X5 := Lib.hid hx5
      have Z5 := Lib.hid (X4.out.below (below_undrew hb5))
      have Y5 := Lib.hid (Y4.out.below (below_undrew hb5))
      have B5 := Lib.hid (below_step B4.out (below_undrew hb5))
      clear hx5 hb5
      go_wp2_with fail
      refine (eqF_any _ _ zs zs _ Z5.out X5.out (SameList.refl zs)).mono ?_
      rintro _ _ ⟨rfl, n3, rfl⟩
      go_wp2_with fail
      refine (toF_any _ ys _ C5.out.drewN hl').mono ?_
      rintro _ w6 ⟨y6, rfl, hx6, hb6⟩
      have Y6 := Lib.hid hx6
      have Z6 := Lib.hid (Y5.out.below (below_undrew hb6))
      have B6 := Lib.hid (below_step B5.out (below_undrew hb6))
      clear hx6 hb6
      go_wp2_with fail
      refine (eqF_any _ _ ys ys _ Z6.out Y6.out (SameList.refl ys)).mono ?_
      rintro _ _ ⟨rfl, n4, rfl⟩
      go_wp2
      go_ret
      exact Tru.below (below_drewN B6.out _)
    · subst hv hv'
      clear h h'
      go_enter Try.func5, Try.ntmps5
      go_wp2
      go_ret
      exact Tru.same
  · subst hv hv'
    clear h h'
    go_enter Try.func5, Try.ntmps5
    go_wp2
    go_ret
    exact Tru.same
end Go.Proofs.Ytgbjadckgfeimab
