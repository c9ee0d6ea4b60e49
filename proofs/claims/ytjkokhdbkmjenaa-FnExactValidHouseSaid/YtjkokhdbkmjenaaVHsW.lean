/- The law FnExactValidHouse, walked. -/
import Derived.Test.YtjkokhdbkmjenaaHsI
import Derived.Test.YtjkokhdbkmjenaaOpenHs
import Derived.Test.YtjkokhdbkmjenaaFu
import Derived.Deep.RegionHeld3
namespace Go.Proofs.Ytjkokhdbkmjenaa
open Go.RowKit
set_option linter.unusedVariables false

set_option maxRecDepth 10000 in
set_option maxHeartbeats 1600000 in
theorem fnExactValidHouse_walk (r : HS) (a b c d : Value) (w : World) (h : HRow w a b c d r) (hf : HWf r) :
    Calls Try.prog 11 #[.agg #[a, b, c, d]] w (Tru w) := by
  have R := Lib.hid (fun w1 (hb : Below w.heap.size w w1) => h.below hb)
  clear h hf
  have A := Lib.hid (Cells.made w (hvs a b c d) 56)
  have Bw := Lib.hid (below_al1 w (.cells (hvs a b c d).toArray 56))
  by_cases hl : r.size ≤ 1048576
  · have HL := Lib.hid hl
    clear hl
    go_enter Try.func11, Try.ntmps11
    go_wp2_with fail
    refine (szHouse_fit a b c d r 1048576 _ (R.out _ Bw.out) HL.out (Nat.le_refl _)).mono ?_
    rintro _ w1 ⟨rfl, hb⟩
    have Bw := Lib.hid (below_step Bw.out hb); have A := Lib.hid (A.out.kept hb); have c0 := A.out.at 0 rfl; have c1 := A.out.at 1 rfl; have c2 := A.out.at 2 rfl; have c3 := A.out.at 3 rfl; clear hb
    go_wp2_with fail
    refine (toHouse_any a b c d r _ (R.out _ Bw.out) HL.out).mono ?_
    rintro _ w2 ⟨p0, p1, p2, p3, rfl, hp, V, hb⟩
    clear c0 c1 c2 c3
    have Bw := Lib.hid (below_step Bw.out hb); have A := Lib.hid (A.out.kept hb); have c0 := A.out.at 0 rfl; have c1 := A.out.at 1 rfl; have c2 := A.out.at 2 rfl; have c3 := A.out.at 3 rfl; have V := Lib.hid V; clear hb hp
    go_wp2_with fail
    refine (specValidHouse_any _ _ _ _ r _ (V.out.row HL.out)).mono ?_
    rintro _ w3 ⟨rfl, hb⟩
    clear c0 c1 c2 c3
    have Bw := Lib.hid (below_step Bw.out hb); have A := Lib.hid (A.out.kept hb); have c0 := A.out.at 0 rfl; have c1 := A.out.at 1 rfl; have c2 := A.out.at 2 rfl; have c3 := A.out.at 3 rfl; clear hb V
    go_wp2_with fail
    refine (toHouse_any a b c d r _ (R.out _ Bw.out) HL.out).mono ?_
    rintro _ w4 ⟨x0, x1, x2, x3, rfl, hp, V, hb⟩
    clear c0 c1 c2 c3
    have Bw := Lib.hid (below_step Bw.out hb); have A := Lib.hid (A.out.kept hb); have c0 := A.out.at 0 rfl; have c1 := A.out.at 1 rfl; have c2 := A.out.at 2 rfl; have c3 := A.out.at 3 rfl; have V := Lib.hid V; clear hb hp
    have X := Lib.hid (Cells.made w4 (hvs (sl x0 r.W) (sl x1 r.H) (sl x2 r.L) (slk x3 r.K)) 61)
    have V := Lib.hid (V.out.kept (below_al1 w4 (.cells (hvs (sl x0 r.W) (sl x1 r.H) (sl x2 r.L) (slk x3 r.K)).toArray 61)))
    have A := Lib.hid (A.out.kept (below_al1 w4 (.cells (hvs (sl x0 r.W) (sl x1 r.H) (sl x2 r.L) (slk x3 r.K)).toArray 61)))
    have Bw := Lib.hid (below_step Bw.out (below_al1 w4 (.cells (hvs (sl x0 r.W) (sl x1 r.H) (sl x2 r.L) (slk x3 r.K)).toArray 61)))
    go_wp2_with fail
    refine (implHs_any _ _ _ _ r _ (V.out.row HL.out)).mono ?_
    rintro _ w5 ⟨rfl, hb⟩
    clear c0 c1 c2 c3
    have Bw := Lib.hid (below_step Bw.out hb); have A := Lib.hid (A.out.kept hb); have X := Lib.hid (X.out.kept hb); have V := Lib.hid (V.out.kept hb); have c0 := A.out.at 0 rfl; have c1 := A.out.at 1 rfl; have c2 := A.out.at 2 rfl; have c3 := A.out.at 3 rfl; clear hb
    have d0 := X.out.at 0 rfl; have d1 := X.out.at 1 rfl; have d2 := X.out.at 2 rfl; have d3 := X.out.at 3 rfl
    go_wp2
    generalize w4.heap.size = q at *
    go_region_held3 (fun w' => w'.cell? ⟨w.heap.size, 0, none⟩ = some (a) ∧ w'.cell? ⟨w.heap.size, 1, none⟩ = some (b) ∧ w'.cell? ⟨w.heap.size, 2, none⟩ = some (c) ∧ w'.cell? ⟨w.heap.size, 3, none⟩ = some (d) ∧ w'.cell? ⟨q, 0, none⟩ = some (sl x0 r.W) ∧ w'.cell? ⟨q, 1, none⟩ = some (sl x1 r.H) ∧ w'.cell? ⟨q, 2, none⟩ = some (sl x2 r.L) ∧ w'.cell? ⟨q, 3, none⟩ = some (slk x3 r.K)) (exact ⟨c0, c1, c2, c3, d0, d1, d2, d3⟩)
      (first
      | (go_at_call 40; refine (toHouse_any a b c d r _ (R.out _ (below_drewN Bw.out _)) HL.out).mono ?_; rintro _ w6 ⟨y0, y1, y2, y3, rfl, hp, Z, hb⟩; have Bw := Lib.hid (below_step Bw.out (below_undrew hb)); have A := Lib.hid (A.out.kept (below_undrew hb)); have X := Lib.hid (X.out.kept (below_undrew hb)); have V := Lib.hid (V.out.kept (below_undrew hb)); have Z := Lib.hid Z; clear hp hb; have c0 := A.out.at 0 rfl; have c1 := A.out.at 1 rfl; have c2 := A.out.at 2 rfl; have c3 := A.out.at 3 rfl; have d0 := X.out.at 0 rfl; have d1 := X.out.at 1 rfl; have d2 := X.out.at 2 rfl; have d3 := X.out.at 3 rfl)
      | (go_at_call 42; refine (eqHouse_any _ _ _ _ _ _ _ _ r _ (V.out.row HL.out) (Z.out.row HL.out)).mono ?_; rintro _ w7 ⟨rfl, hb⟩; have Bw := Lib.hid (below_step Bw.out hb); have A := Lib.hid (A.out.kept hb); have X := Lib.hid (X.out.kept hb); clear hb; have c0 := A.out.at 0 rfl; have c1 := A.out.at 1 rfl; have c2 := A.out.at 2 rfl; have c3 := A.out.at 3 rfl; have d0 := X.out.at 0 rfl; have d1 := X.out.at 1 rfl; have d2 := X.out.at 2 rfl; have d3 := X.out.at 3 rfl))
    all_goals
      go_wp2
      go_ret
      exact Tru.below Bw.out
  · have HL := Lib.hid (Nat.lt_of_not_le hl)
    clear hl
    go_enter Try.func11, Try.ntmps11
    go_wp2_with fail
    refine (szHouse_over a b c d r 1048576 _ (R.out _ Bw.out) HL.out (Nat.le_refl _)).mono ?_
    rintro _ w1 ⟨rfl, hb⟩
    have Bw := Lib.hid (below_step Bw.out hb); have A := Lib.hid (A.out.kept hb); have c0 := A.out.at 0 rfl; have c1 := A.out.at 1 rfl; have c2 := A.out.at 2 rfl; have c3 := A.out.at 3 rfl; clear hb
    go_wp2
    go_ret
    exact Tru.below Bw.out

end Go.Proofs.Ytjkokhdbkmjenaa
