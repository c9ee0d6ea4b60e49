/- The path to cooler cells: both tops. -/
import Derived.Test.YtcjhaeiknenajaaCoolS
import Derived.Test.YtcjhaeiknenajaaCoolI
namespace Go.Proofs.Ytcjhaeiknenajaa
open Go.RowKit
set_option linter.unusedVariables false

theorem specCoolPathL_any (a b c d : Value) (r : PL) (i : Int) (w : World) (h : PRow w a b c d r) : Calls Try.prog 42 #[.agg #[.int .i64 r.X, .int .i64 r.Y, a, b, c, d], .int .i64 i] w (LstJB (cpS r i) (okC r i) w) := by
  cases hv : okC r i
  · have E : cpS r i = [] := by unfold cpS; rw [hv]; rfl
    rw [E]
    have A := Lib.hid (Cells.made w (pvs r a b c d) 28)
    have R := Lib.hid (h.below (below_al1 w (.cells (pvs r a b c d).toArray 28)))
    have HA := Lib.hid (specHas_any r i a b c d _ _ A.out R.out)
    rw [hv] at HA
    clear h
    go_enter Try.func42, Try.ntmps42
    go_wp2_with fail
    refine HA.out.mono ?_
    rintro e w' ⟨rfl, n1, rfl⟩
    go_wp2
    go_ret2
    exact .no (below_drewN (below_al1 _ _) _)
  · have E : cpS r i = pth r r.W.length i.toNat := by unfold cpS; rw [hv]; rfl
    rw [E]
    obtain ⟨v1, v2, v3⟩ := okC_nat hv
    obtain ⟨b0, o0, k0, b1, o1, k1, b2, o2, k2, b3, o3, k3, rfl, rfl, rfl, rfl, hL⟩ := h.lay (PlN.ofV v1)
    have := specCool_ok r _ i.toNat b0 o0 k0 b1 o1 k1 b2 o2 k2 b3 o3 k3 w h hL (PlN.ofV v1) (vPl_W v1) v3 (by rw [← v2]; exact hv)
    rw [show ((i.toNat : Nat) : Int) = i from v2.symm] at this
    exact this

theorem implCoolPathL_any (a b c d : Value) (r : PL) (i : Int) (w : World) (h : PRow w a b c d r) : Calls Try.prog 43 #[.agg #[.int .i64 r.X, .int .i64 r.Y, a, b, c, d], .int .i64 i] w (LstJO (cpS r i) (okC r i) w) := by
  have A := Lib.hid (Cells.made w (pvs r a b c d) 28)
  have Bw := Lib.hid (below_al1 w (.cells (pvs r a b c d).toArray 28))
  cases hp : vPl r
  · have ho : okC r i = false := by unfold okC; rw [hp]; rfl
    have E : cpS r i = [] := by unfold cpS; rw [ho]; rfl
    rw [E, ho]
    have IV := Lib.hid (implPl_any a b c d r _ (h.below (below_al1 w (.cells (pvs r a b c d).toArray 28))))
    rw [hp] at IV
    clear hp h
    go_enter Try.func43, Try.ntmps43
    go_wp2_with fail
    refine IV.out.mono ?_
    rintro e w1 ⟨rfl, hb⟩
    go_wp2
    go_ret2
    exact .no (below_step Bw.out hb)
  · cases hi : (decide (0 ≤ i) && decide (i < (r.W.length : Int)))
    · have ho : okC r i = false := by unfold okC; rw [hp, hi]; rfl
      have E : cpS r i = [] := by unfold cpS; rw [ho]; rfl
      rw [E, ho]
      have NN := Lib.hid (PlN.ofV hp)
      have IV := Lib.hid (implPl_any a b c d r _ (h.below (below_al1 w (.cells (pvs r a b c d).toArray 28))))
      rw [hp] at IV
      clear hp h
      go_enter Try.func43, Try.ntmps43
      go_wp2_with fail
      refine IV.out.mono ?_
      rintro e w1 ⟨rfl, hb⟩
      have Bw := Lib.hid (below_step Bw.out hb); have A := Lib.hid (A.out.kept hb); have c0 := A.out.at 0 rfl; have c1 := A.out.at 1 rfl; have c2 := A.out.at 2 rfl; have c3 := A.out.at 3 rfl; have c4 := A.out.at 4 rfl; have c5 := A.out.at 5 rfl; clear hb
      go_wp2_with fail
      refine (isCell_any r _ _ _ _ _ i _ NN.out).mono ?_
      rw [hi]
      rintro e w2 ⟨rfl, hb⟩
      go_wp2
      go_ret2
      exact .no (below_step Bw.out hb)
    · have ho : okC r i = true := by unfold okC; rw [hp, hi]; rfl
      have E : cpS r i = pth r r.W.length i.toNat := by unfold cpS; rw [ho]; rfl
      rw [E, ho]
      obtain ⟨v1, v2, v3⟩ := okC_nat ho
      obtain ⟨b0, o0, k0, b1, o1, k1, b2, o2, k2, b3, o3, k3, rfl, rfl, rfl, rfl, hL⟩ := h.lay (PlN.ofV v1)
      have := implCool_ok r _ i.toNat b0 o0 k0 b1 o1 k1 b2 o2 k2 b3 o3 k3 w h hL (PlN.ofV v1) (vPl_W v1) v3 v1
      rw [show ((i.toNat : Nat) : Int) = i from v2.symm] at this
      exact this
end Go.Proofs.Ytcjhaeiknenajaa
