/- The law MeltedOfBar, walked. -/
import Derived.Test.YtgcgfnpkkhhkgabBarE
import Derived.Test.YtgcgfnpkkhhkgabMelt
import Derived.Deep.RegionHeld3
namespace Go.Proofs.Ytgcgfnpkkhhkgab
open Go.RowKit
set_option linter.unusedVariables false

set_option maxRecDepth 10000 in
set_option maxHeartbeats 1600000 in
theorem fnExactMeltedOfBar_walk (s : SF) (st : Nat) (v : Value) (zs : List Nat) (w : World) (h : FRow w v zs) (_ : s.wf) (_ : (Lit.float .f32 st).wf = true) (_ : ∀ i, i < zs.length → (Lit.float .f32 (zs.getD i 0)).wf = true) :
    Calls Try.prog 12 #[.agg #[.float .f32 s.so, .float .f32 s.fl, .float .f32 s.es, .float .f32 s.ef, .float .f32 s.pt, .float .f32 s.la, .float .f32 st, v]] w (Tru w) := by
  have R := Lib.hid (fun w1 (hb : Below w.heap.size w w1) => h.below hb)
  clear h
  have A := Lib.hid (Cells.made w (bvs s st v) 38)
  have Bw := Lib.hid (below_al1 w (.cells (bvs s st v).toArray 38))
  by_cases hl : zs.length ≤ 1048576
  · have HL := Lib.hid hl
    have HM : Hid (zs.length ≤ maxLen) := Lib.hid (Nat.le_trans hl (by decide))
    clear hl
    go_enter Try.func12, Try.ntmps12
    go_wp2_with fail
    refine (szBar_fit s st v zs 1048576 _ (R.out _ Bw.out) HL.out (Nat.le_refl _)).mono ?_
    rintro _ w1 ⟨rfl, hb⟩
    have Bw := Lib.hid (below_step Bw.out hb); have A := Lib.hid (A.out.kept hb); have c0 := A.out.at 0 rfl; have c1 := A.out.at 1 rfl; have c2 := A.out.at 2 rfl; have c3 := A.out.at 3 rfl; have c4 := A.out.at 4 rfl; have c5 := A.out.at 5 rfl; have c6 := A.out.at 6 rfl; have c7 := A.out.at 7 rfl; clear hb
    go_wp2_with fail
    refine (toBar_any s st v zs _ (R.out _ Bw.out) HL.out).mono ?_
    rintro _ w2 ⟨p0, rfl, hp, V, hb⟩
    clear c0 c1 c2 c3 c4 c5 c6 c7
    have Bw := Lib.hid (below_step Bw.out hb); have A := Lib.hid (A.out.kept hb); have c0 := A.out.at 0 rfl; have c1 := A.out.at 1 rfl; have c2 := A.out.at 2 rfl; have c3 := A.out.at 3 rfl; have c4 := A.out.at 4 rfl; have c5 := A.out.at 5 rfl; have c6 := A.out.at 6 rfl; have c7 := A.out.at 7 rfl; have V := Lib.hid V; clear hb hp
    go_wp2_with fail
    refine (specMeltB_any s st _ zs _ (.of_cells V.out HM.out)).mono ?_
    rintro _ w3 ⟨f1, hf1, rfl, hb⟩
    have F1 := Lib.hid hf1
    clear hf1
    clear c0 c1 c2 c3 c4 c5 c6 c7
    have Bw := Lib.hid (below_step Bw.out hb); have A := Lib.hid (A.out.kept hb); have c0 := A.out.at 0 rfl; have c1 := A.out.at 1 rfl; have c2 := A.out.at 2 rfl; have c3 := A.out.at 3 rfl; have c4 := A.out.at 4 rfl; have c5 := A.out.at 5 rfl; have c6 := A.out.at 6 rfl; have c7 := A.out.at 7 rfl; clear hb V
    go_wp2_with fail
    refine (toBar_any s st v zs _ (R.out _ Bw.out) HL.out).mono ?_
    rintro _ w4 ⟨x0, rfl, hp, V, hb⟩
    clear c0 c1 c2 c3 c4 c5 c6 c7
    have Bw := Lib.hid (below_step Bw.out hb); have A := Lib.hid (A.out.kept hb); have c0 := A.out.at 0 rfl; have c1 := A.out.at 1 rfl; have c2 := A.out.at 2 rfl; have c3 := A.out.at 3 rfl; have c4 := A.out.at 4 rfl; have c5 := A.out.at 5 rfl; have c6 := A.out.at 6 rfl; have c7 := A.out.at 7 rfl; have V := Lib.hid V; clear hb hp
    have X := Lib.hid (Cells.made w4 (bvs s st (sl x0 zs)) 42)
    have V := Lib.hid (V.out.kept (below_al1 w4 (.cells (bvs s st (sl x0 zs)).toArray 42)))
    have A := Lib.hid (A.out.kept (below_al1 w4 (.cells (bvs s st (sl x0 zs)).toArray 42)))
    have Bw := Lib.hid (below_step Bw.out (below_al1 w4 (.cells (bvs s st (sl x0 zs)).toArray 42)))
    go_wp2_with fail
    refine (implMeltB_any s st _ zs _ (.of_cells V.out HM.out)).mono ?_
    rintro _ w5 ⟨f2, hf2, rfl, hb⟩
    have F2 := Lib.hid (hf2.trans F1.out.symm)
    clear hf2
    clear c0 c1 c2 c3 c4 c5 c6 c7
    have Bw := Lib.hid (below_step Bw.out hb); have A := Lib.hid (A.out.kept hb); have X := Lib.hid (X.out.kept hb); have V := Lib.hid (V.out.kept hb); have c0 := A.out.at 0 rfl; have c1 := A.out.at 1 rfl; have c2 := A.out.at 2 rfl; have c3 := A.out.at 3 rfl; have c4 := A.out.at 4 rfl; have c5 := A.out.at 5 rfl; have c6 := A.out.at 6 rfl; have c7 := A.out.at 7 rfl; clear hb
    have d0 := X.out.at 0 rfl; have d1 := X.out.at 1 rfl; have d2 := X.out.at 2 rfl; have d3 := X.out.at 3 rfl; have d4 := X.out.at 4 rfl; have d5 := X.out.at 5 rfl; have d6 := X.out.at 6 rfl; have d7 := X.out.at 7 rfl
    go_wp2_with (first | (refine wpList_up rfl Try.underlying22 Try.underlying32 _ rfl _ rfl ?_; intro _ _ _) | (go_at_call 20; refine (same_end (a := f2) (b := f1) _ (by assumption) (by assumption) F2.out).mono ?_; rintro e w' ⟨rfl, m, rfl⟩))
    generalize w4.heap.size = q at *
    go_region_held3 (fun w' => w'.cell? ⟨w.heap.size, 0, none⟩ = some (.float .f32 s.so) ∧ w'.cell? ⟨w.heap.size, 1, none⟩ = some (.float .f32 s.fl) ∧ w'.cell? ⟨w.heap.size, 2, none⟩ = some (.float .f32 s.es) ∧ w'.cell? ⟨w.heap.size, 3, none⟩ = some (.float .f32 s.ef) ∧ w'.cell? ⟨w.heap.size, 4, none⟩ = some (.float .f32 s.pt) ∧ w'.cell? ⟨w.heap.size, 5, none⟩ = some (.float .f32 s.la) ∧ w'.cell? ⟨w.heap.size, 6, none⟩ = some (.float .f32 st) ∧ w'.cell? ⟨w.heap.size, 7, none⟩ = some (v) ∧ w'.cell? ⟨q, 0, none⟩ = some (.float .f32 s.so) ∧ w'.cell? ⟨q, 1, none⟩ = some (.float .f32 s.fl) ∧ w'.cell? ⟨q, 2, none⟩ = some (.float .f32 s.es) ∧ w'.cell? ⟨q, 3, none⟩ = some (.float .f32 s.ef) ∧ w'.cell? ⟨q, 4, none⟩ = some (.float .f32 s.pt) ∧ w'.cell? ⟨q, 5, none⟩ = some (.float .f32 s.la) ∧ w'.cell? ⟨q, 6, none⟩ = some (.float .f32 st) ∧ w'.cell? ⟨q, 7, none⟩ = some (sl x0 zs)) (exact ⟨c0, c1, c2, c3, c4, c5, c6, c7, d0, d1, d2, d3, d4, d5, d6, d7⟩)
      (first
      | (go_at_call 29; refine (toBar_any s st v zs _ (R.out _ (below_drewN Bw.out _)) HL.out).mono ?_; rintro _ w6 ⟨y0, rfl, hp, Z, hb⟩; have Bw := Lib.hid (below_step Bw.out (below_undrew hb)); have A := Lib.hid (A.out.kept (below_undrew hb)); have X := Lib.hid (X.out.kept (below_undrew hb)); have V := Lib.hid (V.out.kept (below_undrew hb)); have Z := Lib.hid Z; clear hp hb; have c0 := A.out.at 0 rfl; have c1 := A.out.at 1 rfl; have c2 := A.out.at 2 rfl; have c3 := A.out.at 3 rfl; have c4 := A.out.at 4 rfl; have c5 := A.out.at 5 rfl; have c6 := A.out.at 6 rfl; have c7 := A.out.at 7 rfl; have d0 := X.out.at 0 rfl; have d1 := X.out.at 1 rfl; have d2 := X.out.at 2 rfl; have d3 := X.out.at 3 rfl; have d4 := X.out.at 4 rfl; have d5 := X.out.at 5 rfl; have d6 := X.out.at 6 rfl; have d7 := X.out.at 7 rfl)
      | (go_at_call 31; refine (eqBar_any s st _ _ zs zs _ (.of_cells V.out HM.out) (.of_cells Z.out HM.out) (.refl zs)).mono ?_; rintro _ w7 ⟨rfl, hb⟩; have Bw := Lib.hid (below_step Bw.out hb); have A := Lib.hid (A.out.kept hb); have X := Lib.hid (X.out.kept hb); clear hb; have c0 := A.out.at 0 rfl; have c1 := A.out.at 1 rfl; have c2 := A.out.at 2 rfl; have c3 := A.out.at 3 rfl; have c4 := A.out.at 4 rfl; have c5 := A.out.at 5 rfl; have c6 := A.out.at 6 rfl; have c7 := A.out.at 7 rfl; have d0 := X.out.at 0 rfl; have d1 := X.out.at 1 rfl; have d2 := X.out.at 2 rfl; have d3 := X.out.at 3 rfl; have d4 := X.out.at 4 rfl; have d5 := X.out.at 5 rfl; have d6 := X.out.at 6 rfl; have d7 := X.out.at 7 rfl))
    all_goals
      go_wp2
      go_ret
      exact Tru.below Bw.out
  · have HL := Lib.hid (Nat.lt_of_not_le hl)
    clear hl
    go_enter Try.func12, Try.ntmps12
    go_wp2_with fail
    refine (szBar_over s st v zs 1048576 _ (R.out _ Bw.out) HL.out (Nat.le_refl _)).mono ?_
    rintro _ w1 ⟨rfl, hb⟩
    have Bw := Lib.hid (below_step Bw.out hb); have A := Lib.hid (A.out.kept hb); have c0 := A.out.at 0 rfl; have c1 := A.out.at 1 rfl; have c2 := A.out.at 2 rfl; have c3 := A.out.at 3 rfl; have c4 := A.out.at 4 rfl; have c5 := A.out.at 5 rfl; have c6 := A.out.at 6 rfl; have c7 := A.out.at 7 rfl; clear hb
    go_wp2
    go_ret
    exact Tru.below Bw.out


end Go.Proofs.Ytgcgfnpkkhhkgab
