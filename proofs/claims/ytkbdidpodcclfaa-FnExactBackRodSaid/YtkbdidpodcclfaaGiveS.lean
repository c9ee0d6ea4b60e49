/- A rod is handed on by the specification, if it is valid. -/
import Derived.Test.YtkbdidpodcclfaaValidS
import Derived.Test.YtkbdidpodcclfaaRodC
import Derived.Laws.ResultCell
namespace Go.Proofs.Ytkbdidpodcclfaa
open Go.RowKit
set_option linter.unusedVariables false

def nilRd : Value := .agg #[.slice none 0 0, .slice none 0 0, .slice none 0 0, .slice none 0 0]
def ifR (b : Bool) (v : Value) : Value := bif b then v else nilRd
def GiveP (v : Value) (b : Bool) (w : World) (e : Ending) (w' : World) : Prop := e = .returned (.tuple #[ifR b v, .bool b]) ∧ Below w.heap.size w w'
theorem below_set4 {w w' : World} {B p : Nat} (h : Below B w w') (hp : B ≤ p) (x0 x1 x2 x3 : Value) : Below B w ((((w'.setCell ⟨p, 0, none⟩ x0).setCell ⟨p, 1, none⟩ x1).setCell ⟨p, 2, none⟩ x2).setCell ⟨p, 3, none⟩ x3) :=
  (((h.setCell (p := ⟨p, 0, none⟩) hp x0).setCell (p := ⟨p, 1, none⟩) hp x1).setCell (p := ⟨p, 2, none⟩) hp x2).setCell (p := ⟨p, 3, none⟩) hp x3
set_option maxHeartbeats 1600000 in
theorem specGive_any (a b c d : Value) (r : RL) (w : World) (h : RRow w a b c d r) : Calls Try.prog 39 #[.agg #[a, b, c, d]] w (GiveP (.agg #[a, b, c, d]) (vRod r) w) := by
  obtain ⟨a0, q0, rfl⟩ := h.W.shape
  obtain ⟨a1, q1, rfl⟩ := h.E.shape
  obtain ⟨a2, q2, rfl⟩ := h.H.shape
  obtain ⟨a3, q3, rfl⟩ := h.T.shape
  have H := Lib.hid (h.below (below_al2 w (.cells [.slice a0 r.W.length q0, .slice a1 r.E.length q1, .slice a2 r.H.length q2, .slice a3 r.T.length q3].toArray 25) (.cells [.slice none 0 0, .slice none 0 0, .slice none 0 0, .slice none 0 0].toArray 25)))
  have A := Lib.hid ((Cells.made w [.slice a0 r.W.length q0, .slice a1 r.E.length q1, .slice a2 r.H.length q2, .slice a3 r.T.length q3] 25).al (.cells [.slice none 0 0, .slice none 0 0, .slice none 0 0, .slice none 0 0].toArray 25))
  have R := Cells.made (w.alloc (.cells [.slice a0 r.W.length q0, .slice a1 r.E.length q1, .slice a2 r.H.length q2, .slice a3 r.T.length q3].toArray 25)) [.slice none 0 0, .slice none 0 0, .slice none 0 0, .slice none 0 0] 25
  rw [show (w.alloc (.cells [.slice a0 r.W.length q0, .slice a1 r.E.length q1, .slice a2 r.H.length q2, .slice a3 r.T.length q3].toArray 25)).heap.size = w.heap.size + 1 from by simp] at R
  have R := Lib.hid R
  have Bw := Lib.hid (below_al2 w (.cells [.slice a0 r.W.length q0, .slice a1 r.E.length q1, .slice a2 r.H.length q2, .slice a3 r.T.length q3].toArray 25) (.cells [.slice none 0 0, .slice none 0 0, .slice none 0 0, .slice none 0 0].toArray 25))
  have Z : Hid (w.heap.size ≤ ((w.alloc (.cells [.slice a0 r.W.length q0, .slice a1 r.E.length q1, .slice a2 r.H.length q2, .slice a3 r.T.length q3].toArray 25)).alloc (.cells [.slice none 0 0, .slice none 0 0, .slice none 0 0, .slice none 0 0].toArray 25)).heap.size) := Lib.hid (by simp; omega)
  clear h
  unfold GiveP ifR nilRd
  go_enter Try.func39, Try.ntmps39
  go_wp2_with fail
  generalize hW : ((w.alloc (.cells [.slice a0 r.W.length q0, .slice a1 r.E.length q1, .slice a2 r.H.length q2, .slice a3 r.T.length q3].toArray 25)).alloc (.cells [.slice none 0 0, .slice none 0 0, .slice none 0 0, .slice none 0 0].toArray 25)) = w2 at *
  clear hW
  cases hv : vRod r
  · have HV := Lib.hid hv
    refine (specIs_any _ _ _ _ r _ _ A.out H.out).mono ?_
    rw [hv]
    clear hv
    rintro _ _ ⟨rfl, m, rfl⟩
    have r0 := R.out.at 0 rfl; have r1 := R.out.at 1 rfl; have r2 := R.out.at 2 rfl; have r3 := R.out.at 3 rfl; have rf := R.out.fz
    go_wp2
    refine bodyPost_ret (v := .tuple #[.agg #[.slice none 0 0, .slice none 0 0, .slice none 0 0, .slice none 0 0], .bool false]) ?_ rfl ?_
    · rw [results_cell_tmp rfl]
      go_simp
    · exact ⟨by rw [HV.out]; rfl, below_set4 (below_drewN Bw.out m) (by omega) _ _ _ _⟩
  · have HV := Lib.hid hv
    refine (specIs_any _ _ _ _ r _ _ A.out H.out).mono ?_
    rw [hv]
    clear hv
    rintro _ _ ⟨rfl, m, rfl⟩
    have c0 := A.out.at 0 rfl; have c1 := A.out.at 1 rfl; have c2 := A.out.at 2 rfl; have c3 := A.out.at 3 rfl
    have r0 := R.out.at 0 rfl; have r1 := R.out.at 1 rfl; have r2 := R.out.at 2 rfl; have r3 := R.out.at 3 rfl; have rf := R.out.fz
    go_wp2
    refine bodyPost_ret (v := .tuple #[.agg #[.slice a0 r.W.length q0, .slice a1 r.E.length q1, .slice a2 r.H.length q2, .slice a3 r.T.length q3], .bool true]) ?_ rfl ?_
    · rw [results_cell_tmp rfl]
      go_simp
    · exact ⟨by rw [HV.out]; rfl, below_set4 (below_drewN Bw.out m) (by omega) _ _ _ _⟩

end Go.Proofs.Ytkbdidpodcclfaa
