/- The comparison of two bars. -/
import Derived.Test.YthedpbdeahieaaaDoorBarC
namespace Go.Proofs.YthedpbdeahieaaaDoor
open Go.RowKit
set_option linter.unusedVariables false

theorem eqStuff_any (s : SF) (w : World) : Calls Tryd.prog 81 #[.agg #[.float .f32 s.so, .float .f32 s.fl, .float .f32 s.es, .float .f32 s.ef, .float .f32 s.pt, .float .f32 s.la], .agg #[.float .f32 s.so, .float .f32 s.fl, .float .f32 s.es, .float .f32 s.ef, .float .f32 s.pt, .float .f32 s.la]] w (YesB w) := by
  go_enter Tryd.func81, Tryd.ntmps81
  go_wp2_with (first | (refine wpList_up rfl Tryd.underlying54 Tryd.underlying105 _ rfl _ rfl ?_; intro _ _ _) | (go_at_call 68; refine (same_end _ (by assumption) (by assumption) rfl).mono ?_; rintro e w' ⟨rfl, m, rfl⟩))
  go_ret
  exact ⟨rfl, (by repeat (first | exact Below.refl _ _ | refine Below.setCell ?_ (by first | exact Nat.le_refl _ | (simp; done) | (simp; omega) | omega) _ | refine below_drewN ?_ _ | refine Below.alloc ?_ (by first | exact Nat.le_refl _ | (simp; done) | (simp; omega) | omega) _))⟩

set_option maxRecDepth 10000 in
theorem eqBar_any (s : SF) (st : Nat) (v v' : Value) (zs zs' : List Nat) (w : World) (h : FRow w v zs) (h' : FRow w v' zs') (hs : SameList zs zs') :
    Calls Tryd.prog 45 #[.agg #[.float .f32 s.so, .float .f32 s.fl, .float .f32 s.es, .float .f32 s.ef, .float .f32 s.pt, .float .f32 s.la, .float .f32 st, v], .agg #[.float .f32 s.so, .float .f32 s.fl, .float .f32 s.es, .float .f32 s.ef, .float .f32 s.pt, .float .f32 s.la, .float .f32 st, v']] w (YesB w) := by
  have R := Lib.hid (fun w1 (hb : Below w.heap.size w w1) => h.below hb)
  have R' := Lib.hid (fun w1 (hb : Below w.heap.size w w1) => h'.below hb)
  have S := Lib.hid hs
  clear h h' hs
  have A := Lib.hid ((Cells.made w (bvs s st v) 69).al (.cells (bvs s st v').toArray 69))
  have X := Cells.made (w.alloc (.cells (bvs s st v).toArray 69)) (bvs s st v') 69
  rw [show (w.alloc (.cells (bvs s st v).toArray 69)).heap.size = w.heap.size + 1 from by simp] at X
  have X := Lib.hid X
  have Bw := Lib.hid (below_al2 w (.cells (bvs s st v).toArray 69) (.cells (bvs s st v').toArray 69))
  go_enter Tryd.func45, Tryd.ntmps45
  go_wp2_with fail
  refine (eqStuff_any s _).mono ?_
  rintro _ w1 ⟨rfl, hb⟩
  (first | (have Bw := Lib.hid (below_step Bw.out hb)) | (have Bw := Lib.hid (below_step Bw.out (below_undrew hb))) | (have Bw := Lib.hid (below_step Bw.out (below_unal hb))) | (have Bw := Lib.hid (below_step Bw.out (below_unal (below_undrew hb)))) | (have Bw := Lib.hid (below_step Bw.out (below_undrew (below_unal hb)))) | (have Bw := Lib.hid (below_step Bw.out (below_unal (below_unal hb))))); (first | (have A := Lib.hid (A.out.kept hb)) | (have A := Lib.hid (A.out.kept (below_undrew hb))) | (have A := Lib.hid (A.out.kept (below_unal hb))) | (have A := Lib.hid (A.out.kept (below_unal (below_undrew hb)))) | (have A := Lib.hid (A.out.kept (below_undrew (below_unal hb)))) | (have A := Lib.hid (A.out.kept (below_unal (below_unal hb))))); (first | (have X := Lib.hid (X.out.kept hb)) | (have X := Lib.hid (X.out.kept (below_undrew hb))) | (have X := Lib.hid (X.out.kept (below_unal hb))) | (have X := Lib.hid (X.out.kept (below_unal (below_undrew hb)))) | (have X := Lib.hid (X.out.kept (below_undrew (below_unal hb)))) | (have X := Lib.hid (X.out.kept (below_unal (below_unal hb)))))
  have c0 := A.out.at 0 rfl; have c1 := A.out.at 1 rfl; have c2 := A.out.at 2 rfl; have c3 := A.out.at 3 rfl; have c4 := A.out.at 4 rfl; have c5 := A.out.at 5 rfl; have c6 := A.out.at 6 rfl; have c7 := A.out.at 7 rfl
  have d0 := X.out.at 0 rfl; have d1 := X.out.at 1 rfl; have d2 := X.out.at 2 rfl; have d3 := X.out.at 3 rfl; have d4 := X.out.at 4 rfl; have d5 := X.out.at 5 rfl; have d6 := X.out.at 6 rfl; have d7 := X.out.at 7 rfl
  clear hb
  go_wp2_with (first | (refine wpList_up rfl Tryd.underlying54 Tryd.underlying105 _ rfl _ rfl ?_; intro _ _ _) | (go_at_call 68; refine (same_end (a := st) (b := st) _ (by assumption) (by assumption) rfl).mono ?_; rintro e w' ⟨rfl, m, rfl⟩) | (go_at_call 32; refine (eqF_any v v' _ _ _ (R.out _ (by first | exact Bw.out | exact below_drewN Bw.out _)) (R'.out _ (by first | exact Bw.out | exact below_drewN Bw.out _)) S.out).mono ?_; rintro _ _ ⟨rfl, n1, rfl⟩))
  go_ret
  exact ⟨rfl, by first | exact Bw.out | exact below_drewN Bw.out _⟩
end Go.Proofs.YthedpbdeahieaaaDoor
