/- Whether a plate is valid and has a cell; what flows into it: both sides and the law. -/
import Derived.Test.YtcjhaeiknenajaaFlowS
import Derived.Test.YtcjhaeiknenajaaFlowI
import Derived.Test.YtcjhaeiknenajaaOpenP
import Derived.Deep.RegionHeld3
namespace Go.Proofs.Ytcjhaeiknenajaa
open Go.RowKit
set_option linter.unusedVariables false

def okC (r : PL) (i : Int) : Bool := vPl r && (decide (0 ≤ i) && decide (i < (r.W.length : Int)))
theorem Sd.std {r : PL} {n : Nat} (h : PlN r n) : Sd r r.X.toNat r.Y.toNat n := by
  refine ⟨by have := h.X1; omega, by have := h.Y1; omega, by have := h.X1; omega, by have := h.X2; omega, by have := h.Y1; omega, by have := h.Y2; omega, ?_, h.q⟩
  have h1 := h.xy
  have h2 := h.X1
  have h3 := h.Y1
  have e : ((r.X.toNat * r.Y.toNat : Nat) : Int) = r.X * r.Y := by rw [Int.natCast_mul, Int.toNat_of_nonneg (by omega), Int.toNat_of_nonneg (by omega)]
  omega
theorem okC_nat {r : PL} {i : Int} (h : okC r i = true) : vPl r = true ∧ i = (i.toNat : Int) ∧ i.toNat < r.W.length := by
  unfold okC at h
  simp only [Bool.and_eq_true, decide_eq_true_eq] at h
  exact ⟨h.1, by omega, by omega⟩
def SgH (r : PL) (bb : Bool) (f : FuncId) (_ : Array Value) (v : Value) : Prop := (f = 50 → v = .bool (vPl r)) ∧ (f = 95 → v = .bool bb)

set_option maxRecDepth 10000 in
set_option maxHeartbeats 1600000 in
theorem specHas_any (r : PL) (i : Int) (a b c d : Value) (p : Nat) (w : World) (A : Cells w p (pvs r a b c d)) (h : PRow w a b c d r) : Calls Try.prog 65 #[.pointer (some ⟨p, 0, none⟩), .int .i64 i] w (Bol (okC r i) w) := by
  have IV := Lib.hid (fun q => specPl_any a b c d r p (w.drewN q) A.drewN (h.below (below_drewN (Below.refl _ _) _)))
  have c0 := A.at 0 rfl
  have c1 := A.at 1 rfl
  cases hv : vPl r
  · have E : Hid (okC r i = false) := Lib.hid (by unfold okC; rw [hv]; rfl)
    rw [hv] at IV
    have HV := Lib.hid hv
    clear h A hv
    go_enter Try.func65, Try.ntmps65
    go_wp2
    refine wp_region_loose (SgH r false) (by kernel_rfl) (by kernel_rfl) ?_
    try simp only [List.append]
    repeat ((with_reducible refine wpLoose_cons ?_); (first | ((with_reducible refine wpLoose_skip ?_ ?_); (focus (go_simp; done)); intro K hK; go_simp; refine hK _ ?_; clear hK K) | (refine wpLoose_farithG ?_ _ _ _ _ _ rfl rfl _ _ _ rfl rfl ?_; (focus (go_simp; done)); intro _ _) | (refine wpLoose_valG ?_ ?_ (fun w1 hw1 => ?_) (fun K hK => ?_); (focus (go_simp; done)); rotate_left; (focus (obtain ⟨nq, rfl⟩ := hw1; go_simp; first | done | rfl)); go_simp; refine hK _ ?_; clear hK K) | fail))
    refine wpLoose_callG ?_ 50 #[.pointer (some ⟨p, 0, none⟩)] (fun w1 => ?_) (fun w1 hw1 => ?_) (fun v1 hv1 => ?_)
    · go_simp
    · go_simp
    · obtain ⟨nq, rfl⟩ := hw1
      refine (IV.out _).mono ?_
      rintro e w2 ⟨rfl, n, rfl⟩
      exact ⟨_, rfl, ⟨fun _ => by rw [HV.out], fun h => absurd h (by decide)⟩, n, rfl⟩
    obtain rfl : v1 = .bool false := by rw [hv1.1 rfl, HV.out]
    clear hv1
    repeat ((with_reducible refine wpLoose_cons ?_); (first | ((with_reducible refine wpLoose_skip ?_ ?_); (focus (go_simp; done)); intro K hK; go_simp; refine hK _ ?_; clear hK K) | (refine wpLoose_farithG ?_ _ _ _ _ _ rfl rfl _ _ _ rfl rfl ?_; (focus (go_simp; done)); intro _ _) | (refine wpLoose_valG ?_ ?_ (fun w1 hw1 => ?_) (fun K hK => ?_); (focus (go_simp; done)); rotate_left; (focus (obtain ⟨nq, rfl⟩ := hw1; go_simp; first | done | rfl)); go_simp; refine hK _ ?_; clear hK K) | fail))
    (refine wpLoose_nil ?_; rintro _ ⟨nq, rfl⟩)
    go_wp2
    go_ret
    exact ⟨ret_b E.out, _, rfl⟩
  · have NN := PlN.ofV hv
    obtain ⟨bb, hbb⟩ : ∃ bb, (decide (0 ≤ i) && decide (i ≤ (r.W.length : Int) - 1)) = bb := ⟨_, rfl⟩
    have E : Hid (okC r i = bb) := Lib.hid (by
      unfold okC
      rw [hv, ← hbb, Bool.true_and]
      congr 1
      exact decide_eq_decide.2 (by omega))
    rw [hv] at IV
    have HV := Lib.hid hv
    have hn := NN.xy
    have n1 := NN.p
    have n9 := NN.q
    clear h A hv NN
    generalize r.W.length = n at *
    have HB := Lib.hid hbb
    clear hbb
    go_enter Try.func65, Try.ntmps65
    go_wp2
    refine wp_region_loose (SgH r bb) (by kernel_rfl) (by kernel_rfl) ?_
    try simp only [List.append]
    repeat ((with_reducible refine wpLoose_cons ?_); (first | ((with_reducible refine wpLoose_skip ?_ ?_); (focus (go_simp; done)); intro K hK; go_simp; refine hK _ ?_; clear hK K) | (refine wpLoose_farithG ?_ _ _ _ _ _ rfl rfl _ _ _ rfl rfl ?_; (focus (go_simp; done)); intro _ _) | (refine wpLoose_valG ?_ ?_ (fun w1 hw1 => ?_) (fun K hK => ?_); (focus (go_simp; done)); rotate_left; (focus (obtain ⟨nq, rfl⟩ := hw1; go_simp; first | done | rfl)); go_simp; refine hK _ ?_; clear hK K) | fail))
    refine wpLoose_callG ?_ 50 #[.pointer (some ⟨p, 0, none⟩)] (fun w1 => ?_) (fun w1 hw1 => ?_) (fun v1 hv1 => ?_)
    · go_simp
    · go_simp
    · obtain ⟨nq, rfl⟩ := hw1
      refine (IV.out _).mono ?_
      rintro e w2 ⟨rfl, n, rfl⟩
      exact ⟨_, rfl, ⟨fun _ => by rw [HV.out], fun h => absurd h (by decide)⟩, n, rfl⟩
    obtain rfl : v1 = .bool true := by rw [hv1.1 rfl, HV.out]
    clear hv1
    repeat ((with_reducible refine wpLoose_cons ?_); (first | ((with_reducible refine wpLoose_skip ?_ ?_); (focus (go_simp; done)); intro K hK; go_simp; refine hK _ ?_; clear hK K) | (refine wpLoose_farithG ?_ _ _ _ _ _ rfl rfl _ _ _ rfl rfl ?_; (focus (go_simp; done)); intro _ _) | (refine wpLoose_valG ?_ ?_ (fun w1 hw1 => ?_) (fun K hK => ?_); (focus (go_simp; done)); rotate_left; (focus (obtain ⟨nq, rfl⟩ := hw1; go_simp; first | done | rfl)); go_simp; refine hK _ ?_; clear hK K) | fail))
    refine wpLoose_callG ?_ 95 #[.int .i64 i, .int .i64 0, .int .i64 ((n : Int) - 1)] (fun w1 => ?_) (fun w1 hw1 => ?_) (fun v1 hv1 => ?_)
    · go_simp
    · first | (go_simp; done) | (go_simp; rw [IntWalk.i64_in (n : Int) (by omega), IntWalk.i64_in ((n : Int) - 1) (by omega)])
    · refine (inb_any i 0 ((n : Int) - 1) bb HB.out w1).mono ?_
      rintro e w2 ⟨rfl, n, rfl⟩
      exact ⟨_, rfl, ⟨fun h => absurd h (by decide), fun _ => rfl⟩, n, rfl⟩
    obtain rfl := hv1.2 rfl
    clear hv1
    repeat ((with_reducible refine wpLoose_cons ?_); (first | ((with_reducible refine wpLoose_skip ?_ ?_); (focus (go_simp; done)); intro K hK; go_simp; refine hK _ ?_; clear hK K) | (refine wpLoose_farithG ?_ _ _ _ _ _ rfl rfl _ _ _ rfl rfl ?_; (focus (go_simp; done)); intro _ _) | (refine wpLoose_valG ?_ ?_ (fun w1 hw1 => ?_) (fun K hK => ?_); (focus (go_simp; done)); rotate_left; (focus (obtain ⟨nq, rfl⟩ := hw1; go_simp; first | done | rfl)); go_simp; refine hK _ ?_; clear hK K) | fail))
    (refine wpLoose_nil ?_; rintro _ ⟨nq, rfl⟩)
    go_wp2
    go_ret
    exact ⟨ret_b E.out, _, rfl⟩

end Go.Proofs.Ytcjhaeiknenajaa
