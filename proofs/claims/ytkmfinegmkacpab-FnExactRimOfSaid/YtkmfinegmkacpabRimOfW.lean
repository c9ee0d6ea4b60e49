/- The law RimOf, walked. -/
import Derived.Test.YtkmfinegmkacpabRimI
import Derived.Test.YtkmfinegmkacpabRimS
import Derived.Test.YtkmfinegmkacpabLawJ
import Derived.Test.YtkmfinegmkacpabOpenP
import Derived.Deep.RegionHeld3
namespace Go.Proofs.Ytkmfinegmkacpab
open Go.RowKit
set_option linter.unusedVariables false

set_option maxHeartbeats 4000000 in
set_option maxRecDepth 10000 in
theorem fnExactRimOf_law (r : PL) (a b c d : Value) (l : Nat) (S : List Int) (bb : Bool) (hS : S.length ≤ 200)
    (cs : ∀ a b c d w1, PRow w1 a b c d r → Calls Try.prog 44 #[.agg #[.int .i64 r.X, .int .i64 r.Y, a, b, c, d], .float .f32 l] w1 (LstJB S bb w1))
    (ci : ∀ a b c d w1, PRow w1 a b c d r → Calls Try.prog 45 #[.agg #[.int .i64 r.X, .int .i64 r.Y, a, b, c, d], .float .f32 l] w1 (LstJO S bb w1))
    (w : World) (h : PRow w a b c d r) : Calls Try.prog 12 #[.agg #[.int .i64 r.X, .int .i64 r.Y, a, b, c, d], .float .f32 l] w (Tru w) := by
  have CS := Lib.hid cs
  have CI := Lib.hid ci
  have HS := Lib.hid hS
  have A := Lib.hid (Cells.made w (pvs r a b c d) 25)
  have Bw := Lib.hid (below_al1 w (.cells (pvs r a b c d).toArray 25))
  have R := Lib.hid (fun w1 (hb : Below w.heap.size w w1) => h.below hb)
  clear h cs ci hS
  by_cases hl : r.size ≤ 1048576
  · have HL := Lib.hid hl
    have SM : Hid (S.length ≤ maxLen) := Lib.hid (Nat.le_trans HS.out (by decide))
    have S4 : Hid (S.length ≤ 400) := Lib.hid (Nat.le_trans HS.out (by decide))
    clear hl
    go_enter Try.func12, Try.ntmps12
    try simp only [List.append]
    go_wp2_with fail
    refine (szPlate_fit a b c d r 1048576 _ (R.out _ Bw.out) HL.out (Nat.le_refl _)).mono ?_
    rintro _ w1 ⟨rfl, hb⟩
    have Bw := Lib.hid (below_step Bw.out hb)
    have A := Lib.hid (A.out.kept hb)
    clear hb
    have c0 := (A.out).at 0 rfl; have c1 := (A.out).at 1 rfl; have c2 := (A.out).at 2 rfl; have c3 := (A.out).at 3 rfl; have c4 := (A.out).at 4 rfl; have c5 := (A.out).at 5 rfl
    go_wp2_with fail
    refine (toPlate_any a b c d r _ (R.out _ Bw.out) HL.out).mono ?_
    rintro _ w2 ⟨p0, p1, p2, p3, rfl, hp, V, hb⟩
    have Bw := Lib.hid (below_step Bw.out hb)
    have A := Lib.hid (A.out.kept hb)
    clear hb
    clear hp
    clear c0 c1 c2 c3 c4 c5
    go_wp2_with fail
    refine (CS.out _ _ _ _ _ (V.row HL.out)).mono ?_
    rintro _ w3 ⟨y, rfl, hW, hb⟩
    have Y := Lib.hid hW
    have Bw := Lib.hid (below_step Bw.out hb)
    have A := Lib.hid (A.out.kept hb)
    clear hb
    have RV := Lib.hid (R.out _ Bw.out)
    have B3 := Lib.hid (Below.refl w3.heap.size w3)
    clear V hW R
    have c0 := (A.out).at 0 rfl; have c1 := (A.out).at 1 rfl; have c2 := (A.out).at 2 rfl; have c3 := (A.out).at 3 rfl; have c4 := (A.out).at 4 rfl; have c5 := (A.out).at 5 rfl
    go_wp2_with fail
    refine (toPlate_any a b c d r _ (RV.out.below B3.out) HL.out).mono ?_
    rintro _ w4 ⟨x0, x1, x2, x3, rfl, hp, hV, hb⟩
    clear c0 c1 c2 c3 c4 c5
    have V := Lib.hid hV
    have XP := Lib.hid (Nat.le_trans B3.out.size hp)
    have B3 := Lib.hid (below_step B3.out hb)
    clear hb
    clear hp hV
    have X := Lib.hid (Cells.made w4 (pvs r (sl x0 r.W) (sl x1 r.E) (sl x2 r.G) (slb x3 r.H)) 29)
    have hb := below_al1 w4 (.cells (pvs r (sl x0 r.W) (sl x1 r.E) (sl x2 r.G) (slb x3 r.H)).toArray 29)
    have B3 := Lib.hid (below_step B3.out hb)
    have V := Lib.hid (V.out.kept hb)
    clear hb
    have XL := Lib.hid V.out.H.lt
    have B5 := Lib.hid B3.out.size
    go_wp2_with fail
    refine (CI.out _ _ _ _ _ (V.out.row HL.out)).mono ?_
    rintro _ w6 ⟨g, rfl, hO, hb⟩
    have O := Lib.hid hO
    have H6 := Lib.hid hb.size
    have B3 := Lib.hid (below_step B3.out hb)
    have X := Lib.hid (X.out.kept hb)
    have V := Lib.hid (V.out.kept hb)
    clear hb
    clear hO
    generalize (w4.alloc (.cells (pvs r (sl x0 r.W) (sl x1 r.E) (sl x2 r.G) (slb x3 r.H)).toArray 29)).heap.size = h5 at *
    go_wp2_with fail
    refine (eqJ_any _ _ S _ (O.out.frow SM.out) (Y.out.below B3.out)).mono ?_
    rintro _ w7 ⟨rfl, n7, rfl⟩
    have hb := below_drewN (Below.refl w6.heap.size w6) n7
    have H6 := Lib.hid (Nat.le_trans H6.out hb.size)
    have B3 := Lib.hid (below_step B3.out hb)
    have X := Lib.hid (X.out.kept hb)
    have V := Lib.hid (V.out.kept hb)
    have O := Lib.hid (O.out.kept hb)
    clear hb
    have c0 := (A.out.kept B3.out).at 0 rfl; have c1 := (A.out.kept B3.out).at 1 rfl; have c2 := (A.out.kept B3.out).at 2 rfl; have c3 := (A.out.kept B3.out).at 3 rfl; have c4 := (A.out.kept B3.out).at 4 rfl; have c5 := (A.out.kept B3.out).at 5 rfl
    have d0 := (X.out).at 0 rfl; have d1 := (X.out).at 1 rfl; have d2 := (X.out).at 2 rfl; have d3 := (X.out).at 3 rfl; have d4 := (X.out).at 4 rfl; have d5 := (X.out).at 5 rfl
    go_wp2_with fail
    generalize w6.drewN n7 = w7 at *
    generalize w4.heap.size = q at *
    have BQ := Lib.hid (Below.refl w7.heap.size w7)
    have A7 := Lib.hid (A.out.kept B3.out)
    have R7 := Lib.hid (RV.out.below B3.out)
    go_region_held3 (fun w' => w'.cell? ⟨w.heap.size, 0, none⟩ = some (.int .i64 r.X) ∧ w'.cell? ⟨w.heap.size, 1, none⟩ = some (.int .i64 r.Y) ∧ w'.cell? ⟨w.heap.size, 2, none⟩ = some (a) ∧ w'.cell? ⟨w.heap.size, 3, none⟩ = some (b) ∧ w'.cell? ⟨w.heap.size, 4, none⟩ = some (c) ∧ w'.cell? ⟨w.heap.size, 5, none⟩ = some (d) ∧ w'.cell? ⟨q, 0, none⟩ = some (.int .i64 r.X) ∧ w'.cell? ⟨q, 1, none⟩ = some (.int .i64 r.Y) ∧ w'.cell? ⟨q, 2, none⟩ = some (sl x0 r.W) ∧ w'.cell? ⟨q, 3, none⟩ = some (sl x1 r.E) ∧ w'.cell? ⟨q, 4, none⟩ = some (sl x2 r.G) ∧ w'.cell? ⟨q, 5, none⟩ = some (slb x3 r.H)) (exact ⟨c0, c1, c2, c3, c4, c5, d0, d1, d2, d3, d4, d5⟩)
      (first
      | (go_at_call 15; refine (toPlate_any a b c d r _ (R7.out.below (below_drewN BQ.out _)) HL.out).mono ?_; rintro _ w8 ⟨y0, y1, y2, y3, rfl, hp, Z, hb⟩; have BQ := Lib.hid (below_step BQ.out (below_undrew hb)); have Z := Lib.hid Z; clear hp hb; have c0 := (A7.out.kept BQ.out).at 0 rfl; have c1 := (A7.out.kept BQ.out).at 1 rfl; have c2 := (A7.out.kept BQ.out).at 2 rfl; have c3 := (A7.out.kept BQ.out).at 3 rfl; have c4 := (A7.out.kept BQ.out).at 4 rfl; have c5 := (A7.out.kept BQ.out).at 5 rfl; have d0 := (X.out.kept BQ.out).at 0 rfl; have d1 := (X.out.kept BQ.out).at 1 rfl; have d2 := (X.out.kept BQ.out).at 2 rfl; have d3 := (X.out.kept BQ.out).at 3 rfl; have d4 := (X.out.kept BQ.out).at 4 rfl; have d5 := (X.out.kept BQ.out).at 5 rfl)
      | (go_at_call 18; refine (eqPlate_any _ _ _ _ _ _ _ _ r _ ((V.out.kept BQ.out).row HL.out) (Z.out.row HL.out)).mono ?_; rintro _ w8 ⟨rfl, hb⟩; have BQ := Lib.hid (below_step BQ.out hb); clear hb; have c0 := (A7.out.kept BQ.out).at 0 rfl; have c1 := (A7.out.kept BQ.out).at 1 rfl; have c2 := (A7.out.kept BQ.out).at 2 rfl; have c3 := (A7.out.kept BQ.out).at 3 rfl; have c4 := (A7.out.kept BQ.out).at 4 rfl; have c5 := (A7.out.kept BQ.out).at 5 rfl; have d0 := (X.out.kept BQ.out).at 0 rfl; have d1 := (X.out.kept BQ.out).at 1 rfl; have d2 := (X.out.kept BQ.out).at 2 rfl; have d3 := (X.out.kept BQ.out).at 3 rfl; have d4 := (X.out.kept BQ.out).at 4 rfl; have d5 := (X.out.kept BQ.out).at 5 rfl))
    have hb := BQ.out
    have H6 := Lib.hid (Nat.le_trans H6.out hb.size)
    have B3 := Lib.hid (below_step B3.out hb)
    have X := Lib.hid (X.out.kept hb)
    have V := Lib.hid (V.out.kept hb)
    have O := Lib.hid (O.out.kept hb)
    clear hb
    clear BQ A7 R7
    go_wp2_with fail
    refine (markPlate_any r x0 x1 x2 x3 _ V.out HL.out).mono ?_
    rintro _ w10 ⟨rfl, hT⟩
    have XO := V.out
    have B3 := Lib.hid (B3.out.trans (hT.below (B := w3.heap.size) (fun j hj => Nat.le_trans XP.out hj.1) B3.out.size))
    have O := Lib.hid (O.out.tur hT (fun j hj => Nat.lt_of_le_of_lt hj.2 XL.out))
    have H6 := Lib.hid (Nat.le_trans H6.out hT.size)
    clear hT X V XO
    clear c0 c1 c2 c3 c4 c5
    clear d0 d1 d2 d3 d4 d5
    go_wp2_with fail
    refine (eqJ_any _ _ S _ (O.out.frow SM.out) (Y.out.below B3.out)).mono ?_
    rintro _ w11 ⟨rfl, n11, rfl⟩
    have hb := below_drewN (Below.refl w10.heap.size w10) n11
    have H6 := Lib.hid (Nat.le_trans H6.out hb.size)
    have B3 := Lib.hid (below_step B3.out hb)
    have O := Lib.hid (O.out.kept hb)
    clear hb
    go_wp2_with fail
    refine (markJO O.out S4.out).mono ?_
    rintro _ w12 ⟨rfl, hO, hm⟩
    have hb := hm H6.out
    have H6 := Lib.hid (Nat.le_trans H6.out hb.size)
    have B3 := Lib.hid (B3.out.trans (hb.mono B5.out))
    have O := Lib.hid hO
    clear hO hm hb
    go_wp2_with fail
    refine (heldJO O.out S4.out).mono ?_
    rintro _ w13 ⟨rfl, rfl⟩
    have c0 := (A.out.kept B3.out).at 0 rfl; have c1 := (A.out.kept B3.out).at 1 rfl; have c2 := (A.out.kept B3.out).at 2 rfl; have c3 := (A.out.kept B3.out).at 3 rfl; have c4 := (A.out.kept B3.out).at 4 rfl; have c5 := (A.out.kept B3.out).at 5 rfl
    go_wp2_with fail
    refine (toPlate_any a b c d r _ (RV.out.below B3.out) HL.out).mono ?_
    rintro _ w15 ⟨z0, z1, z2, z3, rfl, hp, Z, hb⟩
    clear c0 c1 c2 c3 c4 c5
    have B3 := Lib.hid (below_step B3.out hb)
    have O := Lib.hid (O.out.kept hb)
    clear hb
    clear hp
    go_wp2_with fail
    refine (CI.out _ _ _ _ _ (Z.row HL.out)).mono ?_
    rintro _ w16 ⟨f, rfl, hO, hb⟩
    have FR := Lib.hid (hO.frow SM.out)
    have B3 := Lib.hid (below_step B3.out hb)
    have O := Lib.hid (O.out.kept hb)
    clear hb
    clear hO Z
    go_wp2_with fail
    refine (eqJ_any _ _ S _ FR.out (Y.out.below B3.out)).mono ?_
    rintro _ w17 ⟨rfl, n17, rfl⟩
    have hb := below_drewN (Below.refl w16.heap.size w16) n17
    have B3 := Lib.hid (below_step B3.out hb)
    have O := Lib.hid (O.out.kept hb)
    clear hb
    go_wp2_with fail
    refine (heldJO O.out S4.out).mono ?_
    rintro _ w18 ⟨rfl, rfl⟩
    go_wp2
    go_ret
    exact Tru.below (below_step Bw.out B3.out)
  · have HL := Lib.hid (Nat.lt_of_not_le hl)
    clear hl
    go_enter Try.func12, Try.ntmps12
    go_wp2_with fail
    refine (szPlate_over a b c d r 1048576 _ (R.out _ Bw.out) HL.out (Nat.le_refl _)).mono ?_
    rintro _ w1 ⟨rfl, hb⟩
    have Bw := Lib.hid (below_step Bw.out hb); have A := Lib.hid (A.out.kept hb); have c0 := (A.out).at 0 rfl; have c1 := (A.out).at 1 rfl; have c2 := (A.out).at 2 rfl; have c3 := (A.out).at 3 rfl; have c4 := (A.out).at 4 rfl; have c5 := (A.out).at 5 rfl; clear hb
    go_wp2
    go_ret
    exact Tru.below Bw.out
theorem fnExactRimOf_walk (r : PL) (a b c d : Value) (l : Nat) (w : World) (h : PRow w a b c d r) (hf : PWf r) (_ : (Lit.float .f32 l).wf = true) :
    Calls Try.prog 12 #[.agg #[.int .i64 r.X, .int .i64 r.Y, a, b, c, d], .float .f32 l] w (Tru w) :=
  fnExactRimOf_law r a b c d l _ _ (lenRimOf r l ) (fun a b c d w1 h => specRimOfL_any a b c d r l w1 h) (fun a b c d w1 h => implRimOfL_any a b c d r l w1 h) w h
end Go.Proofs.Ytkmfinegmkacpab
