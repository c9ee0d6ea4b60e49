/- The laws' marks on a copy of an argument: a list, a rod; from any number on. -/
import Derived.Test.YtkbdidpodcclfaaMarkO
import Derived.Test.YtkbdidpodcclfaaRodC
namespace Go.Proofs.Ytkbdidpodcclfaa
open Go.RowKit
set_option linter.unusedVariables false

/-- marks over a copy of an argument: only its block turns -/
theorem markXk (p k : Nat) (zs : List Nat) (w : World) (H : Cells w p (fl zs)) (hl : zs.length ≤ 1048576) (hk : k ≤ 16777216) :
    Calls Try.prog 26 #[sl p zs, .int .i64 (k : Int)] w fun e w' => e = .returned (.int .i64 ((k + zs.length : Nat) : Int)) ∧ Onl p w w' := by
  have HC : Hid (∃ ys : List Nat, ys.length = zs.length ∧ Cells w p (fl ys)) := Lib.hid ⟨zs, rfl, H⟩
  clear H
  unfold sl
  generalize zs.length = n at *
  go_enter Try.func26, Try.ntmps26
  go_wp2
  go_loopw [1, 5] (fun q i wr => ∃ j : Nat, j ≤ n ∧ i = .int .i64 j ∧ q = .int .i64 ((k + j : Nat) : Int) ∧ Hid (∃ ys : List Nat, ys.length = n ∧ Cells wr p (fl ys)) ∧ Hid (Onl p w wr)) (fun _ i _ => n - (intOf i).toNat)
  case atStart => exact ⟨0, Nat.zero_le _, rfl, rfl, HC, Lib.hid (Onl.refl p w)⟩
  case round =>
    obtain ⟨j, hj, rfl, rfl, hrow, hon⟩ := hrel
    by_cases hlt : j < n
    · obtain ⟨ys, hy, C⟩ := hrow.out
      have hjy : j < ys.length := by omega
      have e3 : wr.cell? ⟨p, j, none⟩ = some (.float .f32 (ys.getD j 0)) := C.at j (by simp [fl, hjy, List.getD_eq_getElem?_getD])
      have e4 : wr.frozen? ⟨p, j, none⟩ = false := C.fz j
      have C := Lib.hid C
      have HY := Lib.hid hy
      clear hrow hy
      generalize ys.getD j 0 = old at *
      have hi : (0 : Int) ≤ (j : Int) := by omega
      have hi' : (j : Int) < (n : Int) := by omega
      go_wp2
      go_roundw
      case rel =>
        refine ⟨j + 1, by omega, by go_num, by go_num, Lib.hid ⟨ys.set j (floatOfInt .f32 ((k + j : Nat) : Int)), by simpa using HY.out, ?_⟩, Lib.hid (Onl.setCell hon.out _ _)⟩
        have := C.out.set j (by simpa [fl] using hjy) (.float .f32 (floatOfInt .f32 ((k + j : Nat) : Int)))
        rw [show fl (ys.set j (floatOfInt .f32 ((k + j : Nat) : Int))) = (fl ys).set j (.float .f32 (floatOfInt .f32 ((k + j : Nat) : Int))) from by simp [fl, List.map_set]]
        simpa using this
      case measure => simp [intOf]; omega
    · have e := Lib.hid (show j = n by omega)
      go_wp2
      go_ret
      have := e.out
      subst this
      exact ⟨rfl, hon.out⟩

set_option maxHeartbeats 1600000 in
theorem markRod_at (r : RL) (x0 x1 x2 x3 : Nat) (w : World) (V0 : RodAt w x0 x1 x2 x3 r) (k : Nat) (hk : k ≤ 2097152) (hl : r.size ≤ 1048576) :
    Calls Try.prog 14 #[.agg #[sl x0 r.W, sl x1 r.E, sl x2 r.H, sl x3 r.T], .int .i64 (k : Int)] w fun e w' => e = .returned (.int .i64 ((k + r.size : Nat) : Int)) ∧ Tur (fun j => x0 ≤ j ∧ j ≤ x3) w w' := by
  have V := Lib.hid (V0.kept (below_al1 w (.cells ([sl x0 r.W, sl x1 r.E, sl x2 r.H, sl x3 r.T]).toArray 25)))
  have A := Lib.hid (Cells.made w ([sl x0 r.W, sl x1 r.E, sl x2 r.H, sl x3 r.T]) 25)
  have T := Lib.hid (Tur.of_below (S := fun j => x0 ≤ j ∧ j ≤ x3) (below_al1 w (.cells ([sl x0 r.W, sl x1 r.E, sl x2 r.H, sl x3 r.T]).toArray 25)))
  have XL := Lib.hid V0.T.lt
  have o1 := V0.o01
  have o2 := V0.o12
  have o3 := V0.o23
  have O1 := Lib.hid o1
  have O2 := Lib.hid o2
  have O3 := Lib.hid o3
  clear V0 o1 o2 o3
  have VW := Lib.hid V.out.W
  have vH := Lib.hid V.out.E
  have vL := Lib.hid V.out.H
  have vK := Lib.hid V.out.T
  clear V
  have SZ : Hid (k + r.W.length + r.E.length + r.H.length + r.T.length = k + r.size) := Lib.hid (by unfold RL.size; omega)
  unfold RL.size at hl
  have LW : Hid (r.W.length ≤ 1048576) := Lib.hid (by omega)
  have lH : Hid (r.E.length ≤ 1048576) := Lib.hid (by omega)
  have lL : Hid (r.H.length ≤ 1048576) := Lib.hid (by omega)
  have lK : Hid (r.T.length ≤ 1048576) := Lib.hid (by omega)
  have HK := Lib.hid hk
  clear hl hk
  have c0 := A.out.at 0 rfl; have c1 := A.out.at 1 rfl; have c2 := A.out.at 2 rfl; have c3 := A.out.at 3 rfl
  go_enter Try.func14, Try.ntmps14
  go_wp2_with fail
  refine (markXk x0 k r.W _ VW.out LW.out (by have := HK.out; have := LW.out; have := lH.out; have := lL.out; omega)).mono ?_
  rintro _ w1 ⟨rfl, hon⟩
  have T0 := Tur.of_onl (S := (· = x0)) hon rfl
  have T := Lib.hid (T.out.trans (Tur.of_onl hon ⟨by have := O1.out; have := O2.out; have := O3.out; omega, by have := O1.out; have := O2.out; have := O3.out; omega⟩))
  have A := Lib.hid (T0.cells A.out (by intro e; have := XL.out; have := O1.out; have := O2.out; have := O3.out; omega))
  have vH := Lib.hid (T0.cells vH.out (by intro e; have := O1.out; have := O2.out; have := O3.out; omega))
  have vL := Lib.hid (T0.cells vL.out (by intro e; have := O1.out; have := O2.out; have := O3.out; omega))
  have vK := Lib.hid (T0.cells vK.out (by intro e; have := O1.out; have := O2.out; have := O3.out; omega))
  clear hon T0 c0 c1 c2 c3
  have c0 := A.out.at 0 rfl; have c1 := A.out.at 1 rfl; have c2 := A.out.at 2 rfl; have c3 := A.out.at 3 rfl
  go_wp2_with fail
  refine (markXk x1 (k + r.W.length) r.E _ vH.out lH.out (by have := HK.out; have := LW.out; have := lH.out; have := lL.out; omega)).mono ?_
  rintro _ w2 ⟨rfl, hon⟩
  have T1 := Tur.of_onl (S := (· = x1)) hon rfl
  have T := Lib.hid (T.out.trans (Tur.of_onl hon ⟨by have := O1.out; have := O2.out; have := O3.out; omega, by have := O1.out; have := O2.out; have := O3.out; omega⟩))
  have A := Lib.hid (T1.cells A.out (by intro e; have := XL.out; have := O1.out; have := O2.out; have := O3.out; omega))
  have vL := Lib.hid (T1.cells vL.out (by intro e; have := O1.out; have := O2.out; have := O3.out; omega))
  have vK := Lib.hid (T1.cells vK.out (by intro e; have := O1.out; have := O2.out; have := O3.out; omega))
  clear hon T1 c0 c1 c2 c3
  have c0 := A.out.at 0 rfl; have c1 := A.out.at 1 rfl; have c2 := A.out.at 2 rfl; have c3 := A.out.at 3 rfl
  go_wp2_with fail
  refine (markXk x2 (k + r.W.length + r.E.length) r.H _ vL.out lL.out (by have := HK.out; have := LW.out; have := lH.out; have := lL.out; omega)).mono ?_
  rintro _ w3 ⟨rfl, hon⟩
  have T2 := Tur.of_onl (S := (· = x2)) hon rfl
  have T := Lib.hid (T.out.trans (Tur.of_onl hon ⟨by have := O1.out; have := O2.out; have := O3.out; omega, by have := O1.out; have := O2.out; have := O3.out; omega⟩))
  have A := Lib.hid (T2.cells A.out (by intro e; have := XL.out; have := O1.out; have := O2.out; have := O3.out; omega))
  have vK := Lib.hid (T2.cells vK.out (by intro e; have := O1.out; have := O2.out; have := O3.out; omega))
  clear hon T2 c0 c1 c2 c3
  have c0 := A.out.at 0 rfl; have c1 := A.out.at 1 rfl; have c2 := A.out.at 2 rfl; have c3 := A.out.at 3 rfl
  go_wp2_with fail
  refine (markXk x3 (k + r.W.length + r.E.length + r.H.length) r.T _ vK.out lK.out (by have := HK.out; have := LW.out; have := lH.out; have := lL.out; omega)).mono ?_
  rintro _ w4 ⟨rfl, hon⟩
  have T3 := Tur.of_onl (S := (· = x3)) hon rfl
  have T := Lib.hid (T.out.trans (Tur.of_onl hon ⟨by have := O1.out; have := O2.out; have := O3.out; omega, by have := O1.out; have := O2.out; have := O3.out; omega⟩))
  have A := Lib.hid (T3.cells A.out (by intro e; have := XL.out; have := O1.out; have := O2.out; have := O3.out; omega))
  clear hon T3 c0 c1 c2 c3
  have c0 := A.out.at 0 rfl; have c1 := A.out.at 1 rfl; have c2 := A.out.at 2 rfl; have c3 := A.out.at 3 rfl
  go_wp2
  go_ret
  exact ⟨by rw [← SZ.out]; rfl, T.out⟩
end Go.Proofs.Ytkbdidpodcclfaa
