/- A rod is handed on by the program, if it is valid. -/
import Derived.Test.YtkbdidpodcclfaaGiveS
import Derived.Test.YtkbdidpodcclfaaAll
namespace Go.Proofs.Ytkbdidpodcclfaa
open Go.RowKit
set_option linter.unusedVariables false

theorem below_trans2 {B : Nat} {w w2 w3 : World} (h : Below B w w2) (hs : B ≤ w2.heap.size) (k : Below w2.heap.size w2 w3) : Below B w w3 := h.trans ⟨k.os, k.tape, k.output, k.size, fun j hj => k.block j (by omega)⟩
set_option maxHeartbeats 1600000 in
theorem implGive_any (a b c d : Value) (r : RL) (w : World) (h : RRow w a b c d r) : Calls Try.prog 42 #[.agg #[a, b, c, d]] w (GiveP (.agg #[a, b, c, d]) (vRod r) w) := by
  obtain ⟨a0, q0, rfl⟩ := h.W.shape
  obtain ⟨a1, q1, rfl⟩ := h.E.shape
  obtain ⟨a2, q2, rfl⟩ := h.H.shape
  obtain ⟨a3, q3, rfl⟩ := h.T.shape
  have H := Lib.hid (h.below (below_al2 w (.cells [.slice a0 r.W.length q0, .slice a1 r.E.length q1, .slice a2 r.H.length q2, .slice a3 r.T.length q3].toArray 25) (.cells [.slice none 0 0, .slice none 0 0, .slice none 0 0, .slice none 0 0].toArray 25)))
  have A := Lib.hid ((Cells.made w [.slice a0 r.W.length q0, .slice a1 r.E.length q1, .slice a2 r.H.length q2, .slice a3 r.T.length q3] 25).al (.cells [.slice none 0 0, .slice none 0 0, .slice none 0 0, .slice none 0 0].toArray 25))
  have R := Cells.made (w.alloc (.cells [.slice a0 r.W.length q0, .slice a1 r.E.length q1, .slice a2 r.H.length q2, .slice a3 r.T.length q3].toArray 25)) [.slice none 0 0, .slice none 0 0, .slice none 0 0, .slice none 0 0] 25
  rw [show (w.alloc (.cells [.slice a0 r.W.length q0, .slice a1 r.E.length q1, .slice a2 r.H.length q2, .slice a3 r.T.length q3].toArray 25)).heap.size = w.heap.size + 1 from by simp] at R
  have R := Lib.hid R
  have Bw := Lib.hid (below_al2 w (.cells [.slice a0 r.W.length q0, .slice a1 r.E.length q1, .slice a2 r.H.length q2, .slice a3 r.T.length q3].toArray 25) (.cells [.slice none 0 0, .slice none 0 0, .slice none 0 0, .slice none 0 0].toArray 25))
  have Z : Hid (w.heap.size ≤ ((w.alloc (.cells [.slice a0 r.W.length q0, .slice a1 r.E.length q1, .slice a2 r.H.length q2, .slice a3 r.T.length q3].toArray 25)).alloc (.cells [.slice none 0 0, .slice none 0 0, .slice none 0 0, .slice none 0 0].toArray 25)).heap.size) := Lib.hid (by simp; omega)
  clear h
  unfold GiveP ifR nilRd
  go_enter Try.func42, Try.ntmps42
  go_wp2_with fail
  generalize hW : ((w.alloc (.cells [.slice a0 r.W.length q0, .slice a1 r.E.length q1, .slice a2 r.H.length q2, .slice a3 r.T.length q3].toArray 25)).alloc (.cells [.slice none 0 0, .slice none 0 0, .slice none 0 0, .slice none 0 0].toArray 25)) = w2 at *
  clear hW
  cases hv : vRod r
  · have HV := Lib.hid hv
    have c0 := A.out.at 0 rfl; have c1 := A.out.at 1 rfl; have c2 := A.out.at 2 rfl; have c3 := A.out.at 3 rfl
    refine (implValid_any _ _ _ _ r _ H.out).mono ?_
    rw [hv]
    clear hv
    rintro _ w3 ⟨rfl, hb⟩
    have R := Lib.hid (R.out.kept hb)
    have A := Lib.hid (A.out.kept hb)
    have Bw := Lib.hid (below_trans2 Bw.out Z.out hb)
    clear hb c0 c1 c2 c3
    have c0 := A.out.at 0 rfl; have c1 := A.out.at 1 rfl; have c2 := A.out.at 2 rfl; have c3 := A.out.at 3 rfl
    have r0 := R.out.at 0 rfl; have r1 := R.out.at 1 rfl; have r2 := R.out.at 2 rfl; have r3 := R.out.at 3 rfl; have rf := R.out.fz
    go_wp2
    refine bodyPost_ret (v := .tuple #[.agg #[.slice none 0 0, .slice none 0 0, .slice none 0 0, .slice none 0 0], .bool false]) ?_ rfl ?_
    · rw [results_cell_tmp rfl]
      go_simp
    · exact ⟨by rw [HV.out]; rfl, below_set4 Bw.out (by omega) _ _ _ _⟩
  · have HV := Lib.hid hv
    have c0 := A.out.at 0 rfl; have c1 := A.out.at 1 rfl; have c2 := A.out.at 2 rfl; have c3 := A.out.at 3 rfl
    refine (implValid_any _ _ _ _ r _ H.out).mono ?_
    rw [hv]
    clear hv
    rintro _ w3 ⟨rfl, hb⟩
    have R := Lib.hid (R.out.kept hb)
    have A := Lib.hid (A.out.kept hb)
    have Bw := Lib.hid (below_trans2 Bw.out Z.out hb)
    clear hb c0 c1 c2 c3
    have c0 := A.out.at 0 rfl; have c1 := A.out.at 1 rfl; have c2 := A.out.at 2 rfl; have c3 := A.out.at 3 rfl
    skip
    have r0 := R.out.at 0 rfl; have r1 := R.out.at 1 rfl; have r2 := R.out.at 2 rfl; have r3 := R.out.at 3 rfl; have rf := R.out.fz
    go_wp2
    refine bodyPost_ret (v := .tuple #[.agg #[.slice a0 r.W.length q0, .slice a1 r.E.length q1, .slice a2 r.H.length q2, .slice a3 r.T.length q3], .bool true]) ?_ rfl ?_
    · rw [results_cell_tmp rfl]
      go_simp
    · exact ⟨by rw [HV.out]; rfl, below_set4 Bw.out (by omega) _ _ _ _⟩

end Go.Proofs.Ytkbdidpodcclfaa
