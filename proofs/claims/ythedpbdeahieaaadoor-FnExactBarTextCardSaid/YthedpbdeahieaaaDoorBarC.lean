/- Bars: their copies, their sizes, and the comparison of two bars. -/
import Derived.Test.YthedpbdeahieaaaDoorStuff
import Derived.Test.YthedpbdeahieaaaDoorSlC
namespace Go.Proofs.YthedpbdeahieaaaDoor
open Go.RowKit
set_option linter.unusedVariables false

/-- a bar's cells -/
def bvs (s : SF) (st : Nat) (v : Value) : List Value := [.float .f32 s.so, .float .f32 s.fl, .float .f32 s.es, .float .f32 s.ef, .float .f32 s.pt, .float .f32 s.la, .float .f32 st, v]
theorem bvs_stuff {w : World} {p : Nat} {s : SF} {st : Nat} {v : Value} (h : Cells w p (bvs s st v)) : Cells w p s.vs := by
  refine ⟨fun i u hu => ?_, h.2.1, h.2.2⟩
  match i, hu with
  | 0, hu => exact h.at 0 (by exact hu)
  | 1, hu => exact h.at 1 (by exact hu)
  | 2, hu => exact h.at 2 (by exact hu)
  | 3, hu => exact h.at 3 (by exact hu)
  | 4, hu => exact h.at 4 (by exact hu)
  | 5, hu => exact h.at 5 (by exact hu)
  | i + 6, hu => simp [SF.vs] at hu
def zvs : List Value := [.float .f32 0, .float .f32 0, .float .f32 0, .float .f32 0, .float .f32 0, .float .f32 0, .float .f32 0, .slice none 0 0]

/-- a bar, by value, that reads so, its list in a block of its own -/
def NewBar (s : SF) (st : Nat) (zs : List Nat) (w : World) (e : Ending) (w' : World) : Prop :=
  ∃ p, e = .returned (.agg #[.float .f32 s.so, .float .f32 s.fl, .float .f32 s.es, .float .f32 s.ef, .float .f32 s.pt, .float .f32 s.la, .float .f32 st, sl p zs]) ∧ w.heap.size ≤ p ∧ Cells w' p (fl zs) ∧ Below w.heap.size w w'

set_option maxHeartbeats 1600000 in
set_option maxRecDepth 10000 in
theorem toBar_any (s : SF) (st : Nat) (v : Value) (zs : List Nat) (w : World) (h : FRow w v zs) (hl : zs.length ≤ 1048576) : Calls Tryd.prog 43 #[.agg #[.float .f32 s.so, .float .f32 s.fl, .float .f32 s.es, .float .f32 s.ef, .float .f32 s.pt, .float .f32 s.la, .float .f32 st, v]] w (NewBar s st zs w) := by
  have HV := Lib.hid h
  have HL := Lib.hid hl
  clear h hl
  have A := Lib.hid (((Cells.made w (bvs s st v) 64).al (.cells zvs.toArray 69)).al (.cells zvs.toArray 69))
  have Y := (Cells.made (w.alloc (.cells (bvs s st v).toArray 64)) zvs 69).al (.cells zvs.toArray 69)
  rw [show (w.alloc (.cells (bvs s st v).toArray 64)).heap.size = w.heap.size + 1 from by simp] at Y
  have X := Cells.made ((w.alloc (.cells (bvs s st v).toArray 64)).alloc (.cells zvs.toArray 69)) zvs 69
  rw [show ((w.alloc (.cells (bvs s st v).toArray 64)).alloc (.cells zvs.toArray 69)).heap.size = w.heap.size + 1 + 1 from by simp] at X
  have Y := Lib.hid Y
  have X := Lib.hid X
  have Bw := Lib.hid (below_al3 w (.cells (bvs s st v).toArray 64) (.cells zvs.toArray 69) (.cells zvs.toArray 69))
  go_enter Tryd.func43, Tryd.ntmps43
  go_wp2_with fail
  refine (toStuff_any s _).mono ?_
  rintro _ w1 ⟨rfl, hb⟩
  have A := Lib.hid (A.out.kept hb)
  have X := Lib.hid (X.out.kept hb)
  have Y := Lib.hid (Y.out.kept hb)
  have Bw := Lib.hid (below_step Bw.out hb)
  clear hb
  have c0 := A.out.at 0 rfl
  have c1 := A.out.at 1 rfl
  have c2 := A.out.at 2 rfl
  have c3 := A.out.at 3 rfl
  have c4 := A.out.at 4 rfl
  have c5 := A.out.at 5 rfl
  have c6 := A.out.at 6 rfl
  have c7 := A.out.at 7 rfl
  have e0 := X.out.at 0 rfl
  have e1 := X.out.at 1 rfl
  have e2 := X.out.at 2 rfl
  have e3 := X.out.at 3 rfl
  have e4 := X.out.at 4 rfl
  have e5 := X.out.at 5 rfl
  have e6 := X.out.at 6 rfl
  have e7 := X.out.at 7 rfl
  have ef := X.out.fz
  go_wp2_with fail
  have Bw := Lib.hid (((((((Bw.out.setCell (p := ⟨w.heap.size + 1 + 1, 0, none⟩) (by simp; omega) (.float .f32 s.so)).setCell (p := ⟨w.heap.size + 1 + 1, 1, none⟩) (by simp; omega) (.float .f32 s.fl)).setCell (p := ⟨w.heap.size + 1 + 1, 2, none⟩) (by simp; omega) (.float .f32 s.es)).setCell (p := ⟨w.heap.size + 1 + 1, 3, none⟩) (by simp; omega) (.float .f32 s.ef)).setCell (p := ⟨w.heap.size + 1 + 1, 4, none⟩) (by simp; omega) (.float .f32 s.pt)).setCell (p := ⟨w.heap.size + 1 + 1, 5, none⟩) (by simp; omega) (.float .f32 s.la)).setCell (p := ⟨w.heap.size + 1 + 1, 6, none⟩) (by simp; omega) (.float .f32 st))
  have A := Lib.hid (((((((A.out.far (q := w.heap.size + 1 + 1) (by omega) 0 (.float .f32 s.so)).far (q := w.heap.size + 1 + 1) (by omega) 1 (.float .f32 s.fl)).far (q := w.heap.size + 1 + 1) (by omega) 2 (.float .f32 s.es)).far (q := w.heap.size + 1 + 1) (by omega) 3 (.float .f32 s.ef)).far (q := w.heap.size + 1 + 1) (by omega) 4 (.float .f32 s.pt)).far (q := w.heap.size + 1 + 1) (by omega) 5 (.float .f32 s.la)).far (q := w.heap.size + 1 + 1) (by omega) 6 (.float .f32 st))
  have Y := Lib.hid (((((((Y.out.far (q := w.heap.size + 1 + 1) (by omega) 0 (.float .f32 s.so)).far (q := w.heap.size + 1 + 1) (by omega) 1 (.float .f32 s.fl)).far (q := w.heap.size + 1 + 1) (by omega) 2 (.float .f32 s.es)).far (q := w.heap.size + 1 + 1) (by omega) 3 (.float .f32 s.ef)).far (q := w.heap.size + 1 + 1) (by omega) 4 (.float .f32 s.pt)).far (q := w.heap.size + 1 + 1) (by omega) 5 (.float .f32 s.la)).far (q := w.heap.size + 1 + 1) (by omega) 6 (.float .f32 st))
  have X := Lib.hid (((((((X.out.set 0 (by simp [zvs]) (.float .f32 s.so)).set 1 (by simp [zvs]) (.float .f32 s.fl)).set 2 (by simp [zvs]) (.float .f32 s.es)).set 3 (by simp [zvs]) (.float .f32 s.ef)).set 4 (by simp [zvs]) (.float .f32 s.pt)).set 5 (by simp [zvs]) (.float .f32 s.la)).set 6 (by simp [zvs]) (.float .f32 st))
  refine (toF_sl _ zs _ (HV.out.below Bw.out) HL.out).mono ?_
  rintro _ w2 ⟨p, rfl, hp, C, hb⟩
  have q0 : Hid (w.heap.size + 2 < p) := Lib.hid (Nat.lt_of_lt_of_le X.out.lt hp)
  have A := Lib.hid (A.out.kept hb)
  have X := Lib.hid (X.out.kept hb)
  have Y := Lib.hid (Y.out.kept hb)
  have Bw := Lib.hid (below_step Bw.out hb)
  have C := Lib.hid C
  clear hb hp
  clear c0 c1 c2 c3 c4 c5 c6 c7 e0 e1 e2 e3 e4 e5 e6 e7 ef
  have c0 := A.out.at 0 rfl
  have c1 := A.out.at 1 rfl
  have c2 := A.out.at 2 rfl
  have c3 := A.out.at 3 rfl
  have c4 := A.out.at 4 rfl
  have c5 := A.out.at 5 rfl
  have c6 := A.out.at 6 rfl
  have c7 := A.out.at 7 rfl
  have e0 := X.out.at 0 rfl
  have e1 := X.out.at 1 rfl
  have e2 := X.out.at 2 rfl
  have e3 := X.out.at 3 rfl
  have e4 := X.out.at 4 rfl
  have e5 := X.out.at 5 rfl
  have e6 := X.out.at 6 rfl
  have e7 := X.out.at 7 rfl
  have ef := X.out.fz
  have g0 := Y.out.at 0 rfl
  have g1 := Y.out.at 1 rfl
  have g2 := Y.out.at 2 rfl
  have g3 := Y.out.at 3 rfl
  have g4 := Y.out.at 4 rfl
  have g5 := Y.out.at 5 rfl
  have g6 := Y.out.at 6 rfl
  have g7 := Y.out.at 7 rfl
  have gf := Y.out.fz
  go_wp2
  have q0 := q0.out
  refine bodyPost_ret (v := .agg #[.float .f32 s.so, .float .f32 s.fl, .float .f32 s.es, .float .f32 s.ef, .float .f32 s.pt, .float .f32 s.la, .float .f32 st, sl p zs]) ?_ rfl ?_
  · rw [results_cell1 rfl]
    go_simp
  · refine ⟨p, rfl, by omega, ?_, ?_⟩
    · iterate 9 (refine Cells.far ?_ (by omega) _ _)
      exact C.out
    · iterate 9 (refine Below.setCell ?_ (by first | (simp; done) | (simp; omega)) _)
      exact Bw.out

theorem szBar_fit (s : SF) (st : Nat) (v : Value) (zs : List Nat) (left : Nat) (w : World) (h : FRow w v zs) (hl : zs.length ≤ left) (hm : left ≤ 1048576) :
    Calls Tryd.prog 41 #[.agg #[.float .f32 s.so, .float .f32 s.fl, .float .f32 s.es, .float .f32 s.ef, .float .f32 s.pt, .float .f32 s.la, .float .f32 st, v], .int .i64 left] w fun e w' => e = .returned (.int .i64 ((left - zs.length : Nat) : Int)) ∧ Below w.heap.size w w' := by
  obtain ⟨a1, a2, rfl⟩ := h.shape
  clear h
  have L1 := Lib.hid hl
  have M := Lib.hid hm
  clear hl hm
  go_enter Tryd.func41, Tryd.ntmps41
  go_wp2_with fail
  refine (sz32_fit _ _ _ left _ L1.out M.out).mono ?_
  rintro _ _ ⟨rfl, rfl⟩
  go_wp2
  go_ret
  exact ⟨rfl, below_al1 _ _⟩

theorem szBar_over (s : SF) (st : Nat) (v : Value) (zs : List Nat) (left : Nat) (w : World) (h : FRow w v zs) (hl : left < zs.length) (hm : left ≤ 1048576) :
    Calls Tryd.prog 41 #[.agg #[.float .f32 s.so, .float .f32 s.fl, .float .f32 s.es, .float .f32 s.ef, .float .f32 s.pt, .float .f32 s.la, .float .f32 st, v], .int .i64 left] w fun e w' => e = .returned (.int .i64 (-1)) ∧ Below w.heap.size w w' := by
  have N1 := Lib.hid h.len
  obtain ⟨a1, a2, rfl⟩ := h.shape
  clear h
  have L1 := Lib.hid hl
  have M := Lib.hid hm
  clear hl hm
  go_enter Tryd.func41, Tryd.ntmps41
  go_wp2_with fail
  refine (sz32_over _ _ _ left _ L1.out N1.out M.out).mono ?_
  rintro _ _ ⟨rfl, rfl⟩
  go_wp2
  go_ret
  exact ⟨rfl, below_al1 _ _⟩

end Go.Proofs.YthedpbdeahieaaaDoor
