/- The specification's rod of equal cells, if it is one. -/
import Derived.Test.YtkbdidpodcclfaaPlain3
import Derived.Test.YtkbdidpodcclfaaIn
namespace Go.Proofs.Ytkbdidpodcclfaa
open Go.RowKit
set_option linter.unusedVariables false

def NoRod (w : World) (e : Ending) (w' : World) : Prop := e = .returned (.tuple #[nilRod, .bool false]) ∧ Below w.heap.size w w'
def YesRod (r : RL) (w : World) (e : Ending) (w' : World) : Prop := ∃ a b c d, e = .returned (.tuple #[.agg #[a, b, c, d], .bool true]) ∧ RRow w' a b c d r ∧ Below w.heap.size w w'

theorem specPR_out (x : Int) (y0 y1 y2 y3 : Nat) (w : World) (hx : (decide (1 ≤ x) && decide (x ≤ 48)) = false) : Calls Try.prog 11 #[.int .i64 x, .float .f32 y0, .float .f32 y1, .float .f32 y2, .float .f32 y3] w (NoRod w) := by
  have R := Lib.hid (Cells.made w [.slice none 0 0, .slice none 0 0, .slice none 0 0, .slice none 0 0] 25)
  have Bw := Lib.hid (below_al1 w (.cells [.slice none 0 0, .slice none 0 0, .slice none 0 0, .slice none 0 0].toArray 25))
  have HX := Lib.hid hx
  clear hx
  unfold NoRod nilRod
  go_enter Try.func11, Try.ntmps11
  go_wp2_with fail
  generalize hW : w.alloc (.cells [.slice none 0 0, .slice none 0 0, .slice none 0 0, .slice none 0 0].toArray 25) = w1 at *
  clear hW
  refine (in_any x 1 48 _).mono ?_
  rw [HX.out]
  rintro _ _ ⟨rfl, rfl⟩
  have r0 := R.out.at 0 rfl; have r1 := R.out.at 1 rfl; have r2 := R.out.at 2 rfl; have r3 := R.out.at 3 rfl; have rf := R.out.fz
  go_wp2
  refine bodyPost_ret (v := .tuple #[.agg #[.slice none 0 0, .slice none 0 0, .slice none 0 0, .slice none 0 0], .bool false]) ?_ rfl ?_
  · rw [results_cell_tmp rfl]
    go_simp
  · exact ⟨rfl, below_set4 Bw.out (by omega) _ _ _ _⟩

set_option maxHeartbeats 1600000 in
theorem specPR_ok (n y0 y1 y2 y3 : Nat) (w : World) (hp : 1 ≤ n) (hq : n ≤ 48) (hv : vRod (repRod n y0 y1 y2 y3) = true) : Calls Try.prog 11 #[.int .i64 n, .float .f32 y0, .float .f32 y1, .float .f32 y2, .float .f32 y3] w (YesRod (repRod n y0 y1 y2 y3) w) := by
  have R := Lib.hid (Cells.made w [.slice none 0 0, .slice none 0 0, .slice none 0 0, .slice none 0 0] 25)
  have Bw := Lib.hid (below_al1 w (.cells [.slice none 0 0, .slice none 0 0, .slice none 0 0, .slice none 0 0].toArray 25))
  have Z : Hid (w.heap.size ≤ (w.alloc (.cells [.slice none 0 0, .slice none 0 0, .slice none 0 0, .slice none 0 0].toArray 25)).heap.size) := Lib.hid (by simp)
  have HP := Lib.hid hp
  have HQ := Lib.hid hq
  have HV := Lib.hid hv
  have HX : Hid ((decide ((1 : Int) ≤ (n : Int)) && decide ((n : Int) ≤ 48)) = true) := Lib.hid (by simp; omega)
  clear hp hq hv
  unfold YesRod
  go_enter Try.func11, Try.ntmps11
  go_wp2_with fail
  generalize hW : w.alloc (.cells [.slice none 0 0, .slice none 0 0, .slice none 0 0, .slice none 0 0].toArray 25) = w1 at *
  clear hW
  refine (in_any (n : Int) 1 48 _).mono ?_
  rw [HX.out]
  rintro _ _ ⟨rfl, rfl⟩
  go_wp2_with fail
  refine (specPlain_any n y0 y1 y2 y3 _ HP.out HQ.out).mono ?_
  rintro _ w2 ⟨a, b, c, d, base, rfl, hbase, hQ, hb⟩
  have hR := hQ.rod HQ.out
  have hlt := R.out.lt
  have BS : Hid (w.heap.size < base) := Lib.hid (by omega)
  clear hlt hbase
  obtain ⟨a0, q0, rfl⟩ := hR.W.shape
  obtain ⟨a1, q1, rfl⟩ := hR.E.shape
  obtain ⟨a2, q2, rfl⟩ := hR.H.shape
  obtain ⟨a3, q3, rfl⟩ := hR.T.shape
  have RR := Lib.hid hR
  have QQ := Lib.hid hQ
  have R := Lib.hid (R.out.kept hb)
  have B2 := Lib.hid (below_trans2 Bw.out Z.out hb)
  have Z2 := Lib.hid (Nat.le_trans Z.out hb.size)
  clear hR hQ hb
  have CG := Lib.hid (specGive_any _ _ _ _ _ _ RR.out)
  rw [HV.out] at CG
  unfold GiveP ifR nilRod at CG
  simp only [cond_true] at CG
  generalize (repRod n y0 y1 y2 y3).W.length = m0 at *
  generalize (repRod n y0 y1 y2 y3).E.length = m1 at *
  generalize (repRod n y0 y1 y2 y3).H.length = m2 at *
  generalize (repRod n y0 y1 y2 y3).T.length = m3 at *
  go_wp2_with fail
  refine CG.out.mono ?_
  rintro _ w3 ⟨rfl, hb⟩
  have QQ := Lib.hid (QQ.out.kept hb)
  have R := Lib.hid (R.out.kept hb)
  have B3 := Lib.hid (below_trans2 B2.out Z2.out hb)
  have Z3 := Lib.hid (Nat.le_trans Z2.out hb.size)
  clear hb CG
  have r0 := R.out.at 0 rfl; have r1 := R.out.at 1 rfl; have r2 := R.out.at 2 rfl; have r3 := R.out.at 3 rfl; have rf := R.out.fz
  go_wp2
  refine bodyPost_ret (v := .tuple #[.agg #[.slice a0 m0 q0, .slice a1 m1 q1, .slice a2 m2 q2, .slice a3 m3 q3], .bool true]) ?_ rfl ?_
  · rw [results_cell_tmp rfl]
    go_simp
  · refine ⟨_, _, _, _, rfl, ?_, below_set4 B3.out (by omega) _ _ _ _⟩
    exact ((((QQ.out.far BS.out 0 _).far BS.out 1 _).far BS.out 2 _).far BS.out 3 _).rod HQ.out

set_option maxHeartbeats 1600000 in
theorem specPR_no (n y0 y1 y2 y3 : Nat) (w : World) (hp : 1 ≤ n) (hq : n ≤ 48) (hv : vRod (repRod n y0 y1 y2 y3) = false) : Calls Try.prog 11 #[.int .i64 n, .float .f32 y0, .float .f32 y1, .float .f32 y2, .float .f32 y3] w (NoRod w) := by
  have R := Lib.hid (Cells.made w [.slice none 0 0, .slice none 0 0, .slice none 0 0, .slice none 0 0] 25)
  have Bw := Lib.hid (below_al1 w (.cells [.slice none 0 0, .slice none 0 0, .slice none 0 0, .slice none 0 0].toArray 25))
  have Z : Hid (w.heap.size ≤ (w.alloc (.cells [.slice none 0 0, .slice none 0 0, .slice none 0 0, .slice none 0 0].toArray 25)).heap.size) := Lib.hid (by simp)
  have HP := Lib.hid hp
  have HQ := Lib.hid hq
  have HV := Lib.hid hv
  have HX : Hid ((decide ((1 : Int) ≤ (n : Int)) && decide ((n : Int) ≤ 48)) = true) := Lib.hid (by simp; omega)
  clear hp hq hv
  unfold NoRod nilRod
  go_enter Try.func11, Try.ntmps11
  go_wp2_with fail
  generalize hW : w.alloc (.cells [.slice none 0 0, .slice none 0 0, .slice none 0 0, .slice none 0 0].toArray 25) = w1 at *
  clear hW
  refine (in_any (n : Int) 1 48 _).mono ?_
  rw [HX.out]
  rintro _ _ ⟨rfl, rfl⟩
  go_wp2_with fail
  refine (specPlain_any n y0 y1 y2 y3 _ HP.out HQ.out).mono ?_
  rintro _ w2 ⟨a, b, c, d, base, rfl, hbase, hQ, hb⟩
  have hR := hQ.rod HQ.out
  have hlt := R.out.lt
  have BS : Hid (w.heap.size < base) := Lib.hid (by omega)
  clear hlt hbase
  obtain ⟨a0, q0, rfl⟩ := hR.W.shape
  obtain ⟨a1, q1, rfl⟩ := hR.E.shape
  obtain ⟨a2, q2, rfl⟩ := hR.H.shape
  obtain ⟨a3, q3, rfl⟩ := hR.T.shape
  have RR := Lib.hid hR
  have QQ := Lib.hid hQ
  have R := Lib.hid (R.out.kept hb)
  have B2 := Lib.hid (below_trans2 Bw.out Z.out hb)
  have Z2 := Lib.hid (Nat.le_trans Z.out hb.size)
  clear hR hQ hb
  have CG := Lib.hid (specGive_any _ _ _ _ _ _ RR.out)
  rw [HV.out] at CG
  unfold GiveP ifR nilRod at CG
  simp only [cond_false] at CG
  generalize (repRod n y0 y1 y2 y3).W.length = m0 at *
  generalize (repRod n y0 y1 y2 y3).E.length = m1 at *
  generalize (repRod n y0 y1 y2 y3).H.length = m2 at *
  generalize (repRod n y0 y1 y2 y3).T.length = m3 at *
  go_wp2_with fail
  refine CG.out.mono ?_
  rintro _ w3 ⟨rfl, hb⟩
  have QQ := Lib.hid (QQ.out.kept hb)
  have R := Lib.hid (R.out.kept hb)
  have B3 := Lib.hid (below_trans2 B2.out Z2.out hb)
  have Z3 := Lib.hid (Nat.le_trans Z2.out hb.size)
  clear hb CG
  have r0 := R.out.at 0 rfl; have r1 := R.out.at 1 rfl; have r2 := R.out.at 2 rfl; have r3 := R.out.at 3 rfl; have rf := R.out.fz
  go_wp2
  refine bodyPost_ret (v := .tuple #[.agg #[.slice none 0 0, .slice none 0 0, .slice none 0 0, .slice none 0 0], .bool false]) ?_ rfl ?_
  · rw [results_cell_tmp rfl]
    go_simp
  · exact ⟨rfl, below_set4 B3.out (by omega) _ _ _ _⟩

end Go.Proofs.Ytkbdidpodcclfaa
