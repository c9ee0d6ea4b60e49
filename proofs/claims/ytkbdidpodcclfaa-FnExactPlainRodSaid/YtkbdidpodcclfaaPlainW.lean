/- The law of the rod of equal cells. -/
import Derived.Test.YtkbdidpodcclfaaPlain5
import Derived.Test.YtkbdidpodcclfaaMarkR
namespace Go.Proofs.Ytkbdidpodcclfaa
open Go.RowKit
set_option linter.unusedVariables false

def nilRL : RL := ⟨[], [], [], []⟩
theorem nil_row (w : World) : RRow w (.slice none 0 0) (.slice none 0 0) (.slice none 0 0) (.slice none 0 0) nilRL := ⟨.inl ⟨⟨_, _, rfl⟩, rfl⟩, .inl ⟨⟨_, _, rfl⟩, rfl⟩, .inl ⟨⟨_, _, rfl⟩, rfl⟩, .inl ⟨⟨_, _, rfl⟩, rfl⟩⟩

set_option maxHeartbeats 3200000 in
set_option maxRecDepth 4000 in
theorem plainLaw_yes (n y0 y1 y2 y3 : Nat) (w : World) (hp : 1 ≤ n) (hq : n ≤ 48) (hv : vRod (repRod n y0 y1 y2 y3) = true) : Calls Try.prog 3 #[.int .i64 n, .float .f32 y0, .float .f32 y1, .float .f32 y2, .float .f32 y3] w (YesB w) := by
  have HP := Lib.hid hp
  have HQ := Lib.hid hq
  have HV := Lib.hid hv
  have CI := Lib.hid (fun w => implPR_any n y0 y1 y2 y3 w hp hq true hv)
  unfold ifR inBlk at CI
  simp only [cond_true] at CI
  clear hp hq hv
  go_enter Try.func3, Try.ntmps3
  go_wp2_with fail
  refine (specPR_ok n y0 y1 y2 y3 _ HP.out HQ.out HV.out).mono ?_
  rintro _ w1 ⟨a, b, c, d, rfl, hR, hb⟩
  obtain ⟨a0, q0, rfl⟩ := hR.W.shape
  obtain ⟨a1, q1, rfl⟩ := hR.E.shape
  obtain ⟨a2, q2, rfl⟩ := hR.H.shape
  obtain ⟨a3, q3, rfl⟩ := hR.T.shape
  have RR := Lib.hid hR
  have BW := Lib.hid hb
  clear hR hb
  generalize (repRod n y0 y1 y2 y3).W.length = m0 at *
  generalize (repRod n y0 y1 y2 y3).E.length = m1 at *
  generalize (repRod n y0 y1 y2 y3).H.length = m2 at *
  generalize (repRod n y0 y1 y2 y3).T.length = m3 at *
  have A1 := Lib.hid (Cells.made w1 [.slice a0 m0 q0, .slice a1 m1 q1, .slice a2 m2 q2, .slice a3 m3 q3] 25)
  have B1 := Lib.hid (below_al1 w1 (.cells [.slice a0 m0 q0, .slice a1 m1 q1, .slice a2 m2 q2, .slice a3 m3 q3].toArray 25))
  have S1 : Hid (w1.heap.size < (w1.alloc (.cells [.slice a0 m0 q0, .slice a1 m1 q1, .slice a2 m2 q2, .slice a3 m3 q3].toArray 25)).heap.size) := Lib.hid (by simp)
  go_wp2_with fail
  generalize hW : w1.alloc (.cells [.slice a0 m0 q0, .slice a1 m1 q1, .slice a2 m2 q2, .slice a3 m3 q3].toArray 25) = w2 at *
  clear hW
  refine (CI.out _).mono ?_
  rintro _ w3 ⟨g, rfl, hg, hr, hb⟩
  have A1 := Lib.hid (A1.out.kept hb)
  have B1 := Lib.hid (below_trans2 B1.out (Nat.le_of_lt S1.out) hb)
  have GG := Lib.hid hg
  have GL := Lib.hid hr.lt
  have NE1 : Hid (¬ w1.heap.size = g) := Lib.hid (by have := S1.out; omega)
  have RO := Lib.hid (rowIs_below hr (below_al1 w3 (.cells [.slice (some ⟨g, 0, none⟩) n n, .slice (some ⟨g, n, none⟩) n n, .slice (some ⟨g, 2 * n, none⟩) n n, .slice (some ⟨g, 3 * n, none⟩) n n].toArray 25)))
  have A3 := Lib.hid (Cells.made w3 [.slice (some ⟨g, 0, none⟩) n n, .slice (some ⟨g, n, none⟩) n n, .slice (some ⟨g, 2 * n, none⟩) n n, .slice (some ⟨g, 3 * n, none⟩) n n] 25)
  have NE3 : Hid (¬ w3.heap.size = g) := Lib.hid (by have := hr.lt; omega)
  have B1 := Lib.hid (B1.out.alloc B1.out.size (.cells [.slice (some ⟨g, 0, none⟩) n n, .slice (some ⟨g, n, none⟩) n n, .slice (some ⟨g, 2 * n, none⟩) n n, .slice (some ⟨g, 3 * n, none⟩) n n].toArray 25))
  have A1 := Lib.hid (A1.out.al (.cells [.slice (some ⟨g, 0, none⟩) n n, .slice (some ⟨g, n, none⟩) n n, .slice (some ⟨g, 2 * n, none⟩) n n, .slice (some ⟨g, 3 * n, none⟩) n n].toArray 25))
  have c0 := A1.out.at 0 rfl; have c1 := A1.out.at 1 rfl; have c2 := A1.out.at 2 rfl; have c3 := A1.out.at 3 rfl
  clear hg hr hb
  go_wp2_with fail
  generalize hW : w3.alloc (.cells [.slice (some ⟨g, 0, none⟩) n n, .slice (some ⟨g, n, none⟩) n n, .slice (some ⟨g, 2 * n, none⟩) n n, .slice (some ⟨g, 3 * n, none⟩) n n].toArray 25) = w4 at *
  clear hW
  have CM := Lib.hid (fun (w : World) (f : Nat → Nat) (hr : w.rowIs g 22 (4 * n) (fun i => .float .f32 (f i))) => markRod_blk g n f w hr HQ.out)
  have CH := Lib.hid (fun (w : World) (hr : w.rowIs g 22 (4 * n) (fun i => .float .f32 (fb (1 + i)))) => heldRod_blk g n w hr HQ.out)
  generalize hM : 1 + n + n + n + n = M at CM CH
  clear hM
  have hM0 : ¬ ((M : Int) < 0) := by omega
  refine (eqRod_any _ _ _ _ _ _ _ _ (repRod n y0 y1 y2 y3) (repRod n y0 y1 y2 y3) _ (pl_row RO.out HQ.out) (RR.out.below B1.out) (SameRL.refl _)).mono ?_
  rintro _ w5 ⟨rfl, hb⟩
  have A1 := Lib.hid (A1.out.kept hb)
  have A3 := Lib.hid (A3.out.kept hb)
  have RO := Lib.hid (rowIs_below RO.out hb)
  have B1 := Lib.hid (below_trans2 B1.out B1.out.size hb)
  clear hb
  have c0 := A1.out.at 0 rfl; have c1 := A1.out.at 1 rfl; have c2 := A1.out.at 2 rfl; have c3 := A1.out.at 3 rfl
  have d0 := A3.out.at 0 rfl; have d1 := A3.out.at 1 rfl; have d2 := A3.out.at 2 rfl; have d3 := A3.out.at 3 rfl
  go_wp2_with fail
  refine (CM.out _ _ RO.out).mono ?_
  rintro _ w6 ⟨rfl, hr, ht⟩
  clear c0 c1 c2 c3 d0 d1 d2 d3
  have A1 := Lib.hid (ht.cells A1.out NE1.out)
  have A3 := Lib.hid (ht.cells A3.out NE3.out)
  have RO := Lib.hid hr
  have B1 := Lib.hid (B1.out.trans (ht.below (B := w1.heap.size) (fun k (hk : k = g) => by have := GG.out; have := S1.out; omega) B1.out.size))
  clear hr ht
  have c0 := A1.out.at 0 rfl; have c1 := A1.out.at 1 rfl; have c2 := A1.out.at 2 rfl; have c3 := A1.out.at 3 rfl
  have d0 := A3.out.at 0 rfl; have d1 := A3.out.at 1 rfl; have d2 := A3.out.at 2 rfl; have d3 := A3.out.at 3 rfl
  go_wp2_with fail
  refine (CH.out _ RO.out).mono ?_
  rintro _ w7 ⟨rfl, hb⟩
  have A1 := Lib.hid (A1.out.kept hb)
  have A3 := Lib.hid (A3.out.kept hb)
  have RO := Lib.hid (rowIs_below RO.out hb)
  have B1 := Lib.hid (below_trans2 B1.out B1.out.size hb)
  clear hb
  have c0 := A1.out.at 0 rfl; have c1 := A1.out.at 1 rfl; have c2 := A1.out.at 2 rfl; have c3 := A1.out.at 3 rfl
  have d0 := A3.out.at 0 rfl; have d1 := A3.out.at 1 rfl; have d2 := A3.out.at 2 rfl; have d3 := A3.out.at 3 rfl
  go_wp2_with fail
  refine (CI.out _).mono ?_
  rintro _ w8 ⟨g2, rfl, hg2, hr2, hb⟩
  have A1 := Lib.hid (A1.out.kept hb)
  have A3 := Lib.hid (A3.out.kept hb)
  have RO := Lib.hid (rowIs_below RO.out hb)
  have B1 := Lib.hid (below_trans2 B1.out B1.out.size hb)
  clear hb
  have c0 := A1.out.at 0 rfl; have c1 := A1.out.at 1 rfl; have c2 := A1.out.at 2 rfl; have c3 := A1.out.at 3 rfl
  have d0 := A3.out.at 0 rfl; have d1 := A3.out.at 1 rfl; have d2 := A3.out.at 2 rfl; have d3 := A3.out.at 3 rfl
  have R2 := Lib.hid (rowIs_below hr2 (below_al1 w8 (.cells [.slice (some ⟨g2, 0, none⟩) n n, .slice (some ⟨g2, n, none⟩) n n, .slice (some ⟨g2, 2 * n, none⟩) n n, .slice (some ⟨g2, 3 * n, none⟩) n n].toArray 25)))
  have A1 := Lib.hid (A1.out.al (.cells [.slice (some ⟨g2, 0, none⟩) n n, .slice (some ⟨g2, n, none⟩) n n, .slice (some ⟨g2, 2 * n, none⟩) n n, .slice (some ⟨g2, 3 * n, none⟩) n n].toArray 25))
  have A3 := Lib.hid (A3.out.al (.cells [.slice (some ⟨g2, 0, none⟩) n n, .slice (some ⟨g2, n, none⟩) n n, .slice (some ⟨g2, 2 * n, none⟩) n n, .slice (some ⟨g2, 3 * n, none⟩) n n].toArray 25))
  have RO := Lib.hid (rowIs_below RO.out (below_al1 w8 (.cells [.slice (some ⟨g2, 0, none⟩) n n, .slice (some ⟨g2, n, none⟩) n n, .slice (some ⟨g2, 2 * n, none⟩) n n, .slice (some ⟨g2, 3 * n, none⟩) n n].toArray 25)))
  have B1 := Lib.hid (B1.out.alloc B1.out.size (.cells [.slice (some ⟨g2, 0, none⟩) n n, .slice (some ⟨g2, n, none⟩) n n, .slice (some ⟨g2, 2 * n, none⟩) n n, .slice (some ⟨g2, 3 * n, none⟩) n n].toArray 25))
  clear hg2 hr2
  have c0 := A1.out.at 0 rfl; have c1 := A1.out.at 1 rfl; have c2 := A1.out.at 2 rfl; have c3 := A1.out.at 3 rfl
  have d0 := A3.out.at 0 rfl; have d1 := A3.out.at 1 rfl; have d2 := A3.out.at 2 rfl; have d3 := A3.out.at 3 rfl
  go_wp2_with fail
  generalize hW : w8.alloc (.cells [.slice (some ⟨g2, 0, none⟩) n n, .slice (some ⟨g2, n, none⟩) n n, .slice (some ⟨g2, 2 * n, none⟩) n n, .slice (some ⟨g2, 3 * n, none⟩) n n].toArray 25) = w9 at *
  clear hW
  refine (eqRod_any _ _ _ _ _ _ _ _ (repRod n y0 y1 y2 y3) (repRod n y0 y1 y2 y3) _ (pl_row R2.out HQ.out) (RR.out.below B1.out) (SameRL.refl _)).mono ?_
  rintro _ w10 ⟨rfl, hb⟩
  have A1 := Lib.hid (A1.out.kept hb)
  have A3 := Lib.hid (A3.out.kept hb)
  have RO := Lib.hid (rowIs_below RO.out hb)
  have B1 := Lib.hid (below_trans2 B1.out B1.out.size hb)
  clear hb
  have c0 := A1.out.at 0 rfl; have c1 := A1.out.at 1 rfl; have c2 := A1.out.at 2 rfl; have c3 := A1.out.at 3 rfl
  have d0 := A3.out.at 0 rfl; have d1 := A3.out.at 1 rfl; have d2 := A3.out.at 2 rfl; have d3 := A3.out.at 3 rfl
  go_wp2_with fail
  refine (CH.out _ RO.out).mono ?_
  rintro _ w11 ⟨rfl, hb⟩
  have B1 := Lib.hid (below_trans2 B1.out B1.out.size hb)
  go_wp2
  go_ret
  exact ⟨rfl, below_trans2 BW.out BW.out.size B1.out⟩
end Go.Proofs.Ytkbdidpodcclfaa
