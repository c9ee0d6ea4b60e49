/- What laws over plates ask of functions that hand back lists of integers. -/
import Derived.Test.YtkmfinegmkacpabMarkJ
namespace Go.Proofs.Ytkmfinegmkacpab
open Go.RowKit
set_option linter.unusedVariables false

/-- a list, and whether there is one -/
def LstJB (S : List Int) (b : Bool) (w : World) (e : Ending) (w' : World) : Prop := ∃ v, e = .returned (.tuple #[v, .bool b]) ∧ JRow w' v S ∧ Below w.heap.size w w'
/-- .. the list lies in memory of its own -/
def LstJO (S : List Int) (b : Bool) (w : World) (e : Ending) (w' : World) : Prop := ∃ v, e = .returned (.tuple #[v, .bool b]) ∧ OJRow w.heap.size w' v S ∧ Below w.heap.size w w'
theorem LstJB.no {w w' : World} (hb : Below w.heap.size w w') : LstJB [] false w (.returned (.tuple #[.slice none 0 0, .bool false])) w' := ⟨_, rfl, .inl ⟨⟨_, _, rfl⟩, rfl⟩, hb⟩
theorem LstJO.no {w w' : World} (hb : Below w.heap.size w w') : LstJO [] false w (.returned (.tuple #[.slice none 0 0, .bool false])) w' := ⟨_, rfl, .nil, hb⟩
theorem OJRow.tur {h : Nat} {S : Nat → Prop} {w w' : World} {v : Value} {zs : List Int} (H : OJRow h w v zs) (T : Tur S w w') (hS : ∀ k, S k → k < h) : OJRow h w' v zs := by
  rcases H with H | ⟨g, o, c, rfl, hg, hr⟩
  · exact .inl H
  · exact .inr ⟨g, o, c, rfl, hg, hr.of_block (T.block g hr.lt (fun hs => by have := hS g hs; omega))⟩
set_option maxHeartbeats 1600000 in
theorem markPlate_any (r : PL) (x0 x1 x2 x3 : Nat) (w : World) (V0 : PlateAt w x0 x1 x2 x3 r) (hl : r.size ≤ 1048576) :
    Calls Try.prog 20 #[.agg #[.int .i64 r.X, .int .i64 r.Y, sl x0 r.W, sl x1 r.E, sl x2 r.G, slb x3 r.H], .int .i64 1] w fun e w' => e = .returned (.int .i64 ((1 + r.size : Nat) : Int)) ∧ Tur (fun j => x0 ≤ j ∧ j ≤ x3) w w' := by
  have V := Lib.hid (V0.kept (below_al1 w (.cells (pvs r (sl x0 r.W) (sl x1 r.E) (sl x2 r.G) (slb x3 r.H)).toArray 29)))
  have A := Lib.hid (Cells.made w (pvs r (sl x0 r.W) (sl x1 r.E) (sl x2 r.G) (slb x3 r.H)) 29)
  have T := Lib.hid (Tur.of_below (S := fun j => x0 ≤ j ∧ j ≤ x3) (below_al1 w (.cells (pvs r (sl x0 r.W) (sl x1 r.E) (sl x2 r.G) (slb x3 r.H)).toArray 29)))
  have XL := Lib.hid V0.H.lt
  have o1 := V0.o01
  have o2 := V0.o12
  have o3 := V0.o23
  have O1 := Lib.hid o1
  have O2 := Lib.hid o2
  have O3 := Lib.hid o3
  clear V0 o1 o2 o3
  have VW := Lib.hid V.out.W
  have VE := Lib.hid V.out.E
  have VG := Lib.hid V.out.G
  have VH := Lib.hid V.out.H
  clear V
  have SZ : Hid (1 + r.W.length + r.E.length + r.G.length + r.H.length = 1 + r.size) := Lib.hid (by unfold PL.size; omega)
  unfold PL.size at hl
  have LW : Hid (r.W.length ≤ 1048576) := Lib.hid (by omega)
  have LE : Hid (r.E.length ≤ 1048576) := Lib.hid (by omega)
  have LG : Hid (r.G.length ≤ 1048576) := Lib.hid (by omega)
  have LH : Hid (r.H.length ≤ 1048576) := Lib.hid (by omega)
  clear hl
  have c0 := A.out.at 0 rfl; have c1 := A.out.at 1 rfl; have c2 := A.out.at 2 rfl; have c3 := A.out.at 3 rfl; have c4 := A.out.at 4 rfl; have c5 := A.out.at 5 rfl
  go_enter Try.func20, Try.ntmps20
  go_wp2_with fail
  refine (markXk x0 (1) r.W _ VW.out LW.out (by have := LW.out; have := LE.out; have := LG.out; omega)).mono ?_
  rintro _ w1 ⟨rfl, hon⟩
  have T0 := Tur.of_onl (S := (· = x0)) hon rfl
  have T := Lib.hid (T.out.trans (Tur.of_onl hon ⟨by have := O1.out; have := O2.out; have := O3.out; omega, by have := O1.out; have := O2.out; have := O3.out; omega⟩))
  have A := Lib.hid (T0.cells A.out (by intro e; have := XL.out; have := O1.out; have := O2.out; have := O3.out; omega))
  have VE := Lib.hid (T0.cells VE.out (by intro e; have := O1.out; have := O2.out; have := O3.out; omega))
  have VG := Lib.hid (T0.cells VG.out (by intro e; have := O1.out; have := O2.out; have := O3.out; omega))
  have VH := Lib.hid (T0.cells VH.out (by intro e; have := O1.out; have := O2.out; have := O3.out; omega))
  clear hon T0 c0 c1 c2 c3 c4 c5
  have c0 := A.out.at 0 rfl; have c1 := A.out.at 1 rfl; have c2 := A.out.at 2 rfl; have c3 := A.out.at 3 rfl; have c4 := A.out.at 4 rfl; have c5 := A.out.at 5 rfl
  go_wp2_with fail
  refine (markXk x1 (1 + r.W.length) r.E _ VE.out LE.out (by have := LW.out; have := LE.out; have := LG.out; omega)).mono ?_
  rintro _ w2 ⟨rfl, hon⟩
  have T1 := Tur.of_onl (S := (· = x1)) hon rfl
  have T := Lib.hid (T.out.trans (Tur.of_onl hon ⟨by have := O1.out; have := O2.out; have := O3.out; omega, by have := O1.out; have := O2.out; have := O3.out; omega⟩))
  have A := Lib.hid (T1.cells A.out (by intro e; have := XL.out; have := O1.out; have := O2.out; have := O3.out; omega))
  have VG := Lib.hid (T1.cells VG.out (by intro e; have := O1.out; have := O2.out; have := O3.out; omega))
  have VH := Lib.hid (T1.cells VH.out (by intro e; have := O1.out; have := O2.out; have := O3.out; omega))
  clear hon T1 c0 c1 c2 c3 c4 c5
  have c0 := A.out.at 0 rfl; have c1 := A.out.at 1 rfl; have c2 := A.out.at 2 rfl; have c3 := A.out.at 3 rfl; have c4 := A.out.at 4 rfl; have c5 := A.out.at 5 rfl
  go_wp2_with fail
  refine (markXk x2 (1 + r.W.length + r.E.length) r.G _ VG.out LG.out (by have := LW.out; have := LE.out; have := LG.out; omega)).mono ?_
  rintro _ w3 ⟨rfl, hon⟩
  have T2 := Tur.of_onl (S := (· = x2)) hon rfl
  have T := Lib.hid (T.out.trans (Tur.of_onl hon ⟨by have := O1.out; have := O2.out; have := O3.out; omega, by have := O1.out; have := O2.out; have := O3.out; omega⟩))
  have A := Lib.hid (T2.cells A.out (by intro e; have := XL.out; have := O1.out; have := O2.out; have := O3.out; omega))
  have VH := Lib.hid (T2.cells VH.out (by intro e; have := O1.out; have := O2.out; have := O3.out; omega))
  clear hon T2 c0 c1 c2 c3 c4 c5
  have c0 := A.out.at 0 rfl; have c1 := A.out.at 1 rfl; have c2 := A.out.at 2 rfl; have c3 := A.out.at 3 rfl; have c4 := A.out.at 4 rfl; have c5 := A.out.at 5 rfl
  go_wp2_with fail
  refine (markBk x3 (1 + r.W.length + r.E.length + r.G.length) r.H _ VH.out LH.out (by have := LW.out; have := LE.out; have := LG.out; omega)).mono ?_
  rintro _ w4 ⟨rfl, hon⟩
  have T3 := Tur.of_onl (S := (· = x3)) hon rfl
  have T := Lib.hid (T.out.trans (Tur.of_onl hon ⟨by have := O1.out; have := O2.out; have := O3.out; omega, by have := O1.out; have := O2.out; have := O3.out; omega⟩))
  have A := Lib.hid (T3.cells A.out (by intro e; have := XL.out; have := O1.out; have := O2.out; have := O3.out; omega))
  clear hon T3 c0 c1 c2 c3 c4 c5
  have c0 := A.out.at 0 rfl; have c1 := A.out.at 1 rfl; have c2 := A.out.at 2 rfl; have c3 := A.out.at 3 rfl; have c4 := A.out.at 4 rfl; have c5 := A.out.at 5 rfl
  go_wp2
  go_ret
  exact ⟨by rw [← SZ.out]; rfl, T.out⟩
end Go.Proofs.Ytkmfinegmkacpab
