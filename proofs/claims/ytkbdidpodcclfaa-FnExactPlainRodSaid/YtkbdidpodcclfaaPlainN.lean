/- The law of the rod of equal cells. -/
import Derived.Test.YtkbdidpodcclfaaPlainW
namespace Go.Proofs.Ytkbdidpodcclfaa
open Go.RowKit
set_option linter.unusedVariables false

set_option maxHeartbeats 3200000 in
set_option maxRecDepth 4000 in
theorem plainLaw_no (x : Int) (y0 y1 y2 y3 : Nat) (w : World) (hs : ∀ w, Calls Try.prog 11 #[.int .i64 x, .float .f32 y0, .float .f32 y1, .float .f32 y2, .float .f32 y3] w (NoRod w)) (hi : ∀ w, Calls Try.prog 12 #[.int .i64 x, .float .f32 y0, .float .f32 y1, .float .f32 y2, .float .f32 y3] w (NoRod w)) : Calls Try.prog 3 #[.int .i64 x, .float .f32 y0, .float .f32 y1, .float .f32 y2, .float .f32 y3] w (YesB w) := by
  have CS := Lib.hid hs
  have CI := Lib.hid hi
  clear hs hi
  unfold NoRod nilRod at CS CI
  go_enter Try.func3, Try.ntmps3
  go_wp2_with fail
  refine (CS.out _).mono ?_
  rintro _ w1 ⟨rfl, hb⟩
  have BW := Lib.hid hb
  clear hb
  have A1 := Lib.hid (Cells.made w1 [.slice none 0 0, .slice none 0 0, .slice none 0 0, .slice none 0 0] 25)
  have B1 := Lib.hid (below_al1 w1 (.cells [.slice none 0 0, .slice none 0 0, .slice none 0 0, .slice none 0 0].toArray 25))
  have S1 : Hid (w1.heap.size < (w1.alloc (.cells [.slice none 0 0, .slice none 0 0, .slice none 0 0, .slice none 0 0].toArray 25)).heap.size) := Lib.hid (by simp)
  go_wp2_with fail
  generalize hW : w1.alloc (.cells [.slice none 0 0, .slice none 0 0, .slice none 0 0, .slice none 0 0].toArray 25) = w2 at *
  clear hW
  refine (CI.out _).mono ?_
  rintro _ w3 ⟨rfl, hb⟩
  have A1 := Lib.hid ((A1.out.kept hb).al (.cells [.slice none 0 0, .slice none 0 0, .slice none 0 0, .slice none 0 0].toArray 25))
  have A3 := Lib.hid (Cells.made w3 [.slice none 0 0, .slice none 0 0, .slice none 0 0, .slice none 0 0] 25)
  have B1 := Lib.hid (below_trans2 B1.out (Nat.le_of_lt S1.out) hb)
  have B1 := Lib.hid (B1.out.alloc B1.out.size (.cells [.slice none 0 0, .slice none 0 0, .slice none 0 0, .slice none 0 0].toArray 25))
  clear hb
  have c0 := A1.out.at 0 rfl; have c1 := A1.out.at 1 rfl; have c2 := A1.out.at 2 rfl; have c3 := A1.out.at 3 rfl
  have d0 := A3.out.at 0 rfl; have d1 := A3.out.at 1 rfl; have d2 := A3.out.at 2 rfl; have d3 := A3.out.at 3 rfl
  go_wp2_with fail
  generalize hW : w3.alloc (.cells [.slice none 0 0, .slice none 0 0, .slice none 0 0, .slice none 0 0].toArray 25) = w4 at *
  clear hW
  refine (eqRod_any _ _ _ _ _ _ _ _ nilRL nilRL _ (nil_row _) (nil_row _) (SameRL.refl _)).mono ?_
  rintro _ w5 ⟨rfl, hb⟩
  have A1 := Lib.hid (A1.out.kept hb)
  have A3 := Lib.hid (A3.out.kept hb)
  have B1 := Lib.hid (below_trans2 B1.out B1.out.size hb)
  clear hb
  have c0 := A1.out.at 0 rfl; have c1 := A1.out.at 1 rfl; have c2 := A1.out.at 2 rfl; have c3 := A1.out.at 3 rfl
  have d0 := A3.out.at 0 rfl; have d1 := A3.out.at 1 rfl; have d2 := A3.out.at 2 rfl; have d3 := A3.out.at 3 rfl
  go_wp2_with fail
  refine (markRod_nil _).mono ?_
  rintro _ w6 ⟨rfl, hb⟩
  have A1 := Lib.hid (A1.out.kept hb)
  have A3 := Lib.hid (A3.out.kept hb)
  have B1 := Lib.hid (below_trans2 B1.out B1.out.size hb)
  clear hb
  have c0 := A1.out.at 0 rfl; have c1 := A1.out.at 1 rfl; have c2 := A1.out.at 2 rfl; have c3 := A1.out.at 3 rfl
  have d0 := A3.out.at 0 rfl; have d1 := A3.out.at 1 rfl; have d2 := A3.out.at 2 rfl; have d3 := A3.out.at 3 rfl
  go_wp2_with fail
  refine (heldRod_nil _).mono ?_
  rintro _ w7 ⟨rfl, hb⟩
  have A1 := Lib.hid (A1.out.kept hb)
  have A3 := Lib.hid (A3.out.kept hb)
  have B1 := Lib.hid (below_trans2 B1.out B1.out.size hb)
  clear hb
  have c0 := A1.out.at 0 rfl; have c1 := A1.out.at 1 rfl; have c2 := A1.out.at 2 rfl; have c3 := A1.out.at 3 rfl
  have d0 := A3.out.at 0 rfl; have d1 := A3.out.at 1 rfl; have d2 := A3.out.at 2 rfl; have d3 := A3.out.at 3 rfl
  go_wp2_with fail
  refine (CI.out _).mono ?_
  rintro _ w8 ⟨rfl, hb⟩
  have A1 := Lib.hid (A1.out.kept hb)
  have A3 := Lib.hid (A3.out.kept hb)
  have B1 := Lib.hid (below_trans2 B1.out B1.out.size hb)
  clear hb
  have c0 := A1.out.at 0 rfl; have c1 := A1.out.at 1 rfl; have c2 := A1.out.at 2 rfl; have c3 := A1.out.at 3 rfl
  have d0 := A3.out.at 0 rfl; have d1 := A3.out.at 1 rfl; have d2 := A3.out.at 2 rfl; have d3 := A3.out.at 3 rfl
  have A1 := Lib.hid (A1.out.al (.cells [.slice none 0 0, .slice none 0 0, .slice none 0 0, .slice none 0 0].toArray 25))
  have A3 := Lib.hid (A3.out.al (.cells [.slice none 0 0, .slice none 0 0, .slice none 0 0, .slice none 0 0].toArray 25))
  have B1 := Lib.hid (B1.out.alloc B1.out.size (.cells [.slice none 0 0, .slice none 0 0, .slice none 0 0, .slice none 0 0].toArray 25))
  have c0 := A1.out.at 0 rfl; have c1 := A1.out.at 1 rfl; have c2 := A1.out.at 2 rfl; have c3 := A1.out.at 3 rfl
  have d0 := A3.out.at 0 rfl; have d1 := A3.out.at 1 rfl; have d2 := A3.out.at 2 rfl; have d3 := A3.out.at 3 rfl
  go_wp2_with fail
  generalize hW : w8.alloc (.cells [.slice none 0 0, .slice none 0 0, .slice none 0 0, .slice none 0 0].toArray 25) = w9 at *
  clear hW
  refine (eqRod_any _ _ _ _ _ _ _ _ nilRL nilRL _ (nil_row _) (nil_row _) (SameRL.refl _)).mono ?_
  rintro _ w10 ⟨rfl, hb⟩
  have A1 := Lib.hid (A1.out.kept hb)
  have A3 := Lib.hid (A3.out.kept hb)
  have B1 := Lib.hid (below_trans2 B1.out B1.out.size hb)
  clear hb
  have c0 := A1.out.at 0 rfl; have c1 := A1.out.at 1 rfl; have c2 := A1.out.at 2 rfl; have c3 := A1.out.at 3 rfl
  have d0 := A3.out.at 0 rfl; have d1 := A3.out.at 1 rfl; have d2 := A3.out.at 2 rfl; have d3 := A3.out.at 3 rfl
  go_wp2_with fail
  refine (heldRod_nil _).mono ?_
  rintro _ w11 ⟨rfl, hb⟩
  have B1 := Lib.hid (below_trans2 B1.out B1.out.size hb)
  go_wp2
  go_ret
  exact ⟨rfl, below_trans2 BW.out BW.out.size B1.out⟩

theorem implPR_no (n y0 y1 y2 y3 : Nat) (w : World) (hp : 1 ≤ n) (hq : n ≤ 48) (hv : vRod (repRod n y0 y1 y2 y3) = false) : Calls Try.prog 12 #[.int .i64 n, .float .f32 y0, .float .f32 y1, .float .f32 y2, .float .f32 y3] w (NoRod w) :=
  (implPR_any n y0 y1 y2 y3 w hp hq false hv).mono fun e w' ⟨_, he, _, _, hb⟩ => ⟨he, hb⟩

theorem fnExactPlainRod_walk (x : Int) (y0 y1 y2 y3 : Nat) (w : World) (_ : (Lit.int .i64 x).wf = true) (_ : (Lit.float .f32 y0).wf = true) (_ : (Lit.float .f32 y1).wf = true) (_ : (Lit.float .f32 y2).wf = true) (_ : (Lit.float .f32 y3).wf = true) :
    Calls Try.prog 3 #[.int .i64 x, .float .f32 y0, .float .f32 y1, .float .f32 y2, .float .f32 y3] w (fun e w' => e = .returned (.bool true) ∧ Below w.heap.size w w') := by
  cases hx : (decide (1 ≤ x) && decide (x ≤ 48))
  · exact plainLaw_no x y0 y1 y2 y3 w (fun w => specPR_out x y0 y1 y2 y3 w hx) (fun w => implPR_out x y0 y1 y2 y3 w hx)
  · have h1 : 1 ≤ x ∧ x ≤ 48 := by simpa using hx
    obtain ⟨n, rfl⟩ := Int.eq_ofNat_of_zero_le (show 0 ≤ x by omega)
    have hp : 1 ≤ n := by omega
    have hq : n ≤ 48 := by omega
    cases hv : vRod (repRod n y0 y1 y2 y3)
    · exact plainLaw_no n y0 y1 y2 y3 w (fun w => specPR_no n y0 y1 y2 y3 w hp hq hv) (fun w => implPR_no n y0 y1 y2 y3 w hp hq hv)
    · exact plainLaw_yes n y0 y1 y2 y3 w hp hq hv
end Go.Proofs.Ytkbdidpodcclfaa
