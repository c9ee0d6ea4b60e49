/- The law RunIce, walked. -/
import Derived.Test.YtgcgfnpkkhhkgabRunIm
namespace Go.Proofs.Ytgcgfnpkkhhkgab
open Go.RowKit
set_option linter.unusedVariables false

theorem Onl.drew_below {g B : Nat} {a w : World} (h : Onl g a w) (hB : B ≤ g) : Below B a w := h.below hB

set_option maxHeartbeats 4000000 in
set_option maxRecDepth 8000 in
theorem fnExactRunIce_walk (s : SF) (i k : Nat) (v : Value) (zs : List Nat) (t : Nat) (w : World) (_ : s.wf) (_ : (Lit.float .f32 i).wf = true) (_ : (Lit.float .f32 k).wf = true) (h : FRow w v zs) (_ : (Lit.float .f32 t).wf = true) :
    Calls Try.prog 14 #[.agg #[.float .f32 s.so, .float .f32 s.fl, .float .f32 s.es, .float .f32 s.ef, .float .f32 s.pt, .float .f32 s.la], .float .f32 i, .float .f32 k, v, .float .f32 t] w (Tru w) := by
  have CS := fun (x : Value) (w1 : World) (hx : FRow w1 x zs) => specRun_any s i k t x zs w1 hx
  have CI := fun (x : Value) (w1 : World) (hx : FRow w1 x zs) => implRun_any s i k t x zs w1 hx
  have HS := runS_length s i k t zs
  generalize runS s i k t zs = S at *
  generalize runB s i k t zs = b at *
  have CS := Lib.hid CS
  have CI := Lib.hid CI
  have HS := Lib.hid HS
  have A := Lib.hid (Cells.made w s.vs 24)
  have Bw := Lib.hid (below_al1 w (.cells s.vs.toArray 24))
  have R := Lib.hid (fun w1 (hb : Below w.heap.size w w1) => h.below hb)
  have HZ := h.len
  obtain ⟨a, cap, rfl⟩ := h.shape
  clear h
  by_cases hl : zs.length ≤ 1048576
  · have HL := Lib.hid hl
    have HM : Hid (zs.length ≤ maxLen) := Lib.hid (Nat.le_trans hl (by decide))
    go_enter Try.func14, Try.ntmps14
    go_wp2_with fail
    refine (toStuff_any s _).mono ?_
    rintro e w1 ⟨rfl, hb⟩
    have Bw := Lib.hid (below_step Bw.out hb)
    have A := Lib.hid (A.out.kept hb)
    clear hb
    go_wp2_with fail
    refine (toF_sl _ zs _ (R.out _ Bw.out) HL.out).mono ?_
    rintro _ w2 ⟨p0, rfl, hp, V, hb⟩
    have Bw := Lib.hid (below_step Bw.out hb)
    have A := Lib.hid (A.out.kept hb)
    clear hb
    clear hp
    go_wp2_with fail
    refine (CS.out _ _ (.of_cells V HM.out)).mono ?_
    rintro _ w3 ⟨y, ys, rfl, hW, hm, hb⟩
    obtain ⟨ya, yc, rfl⟩ := hW.shape
    have Y := Lib.hid hW
    have YM := Lib.hid hm
    have YL : Hid (ys.length = S.length) := Lib.hid (len_of_map hm)
    have Bw := Lib.hid (below_step Bw.out hb)
    have A := Lib.hid (A.out.kept hb)
    clear hb
    have RV := Lib.hid (R.out _ Bw.out)
    have B3 := Lib.hid (Below.refl w3.heap.size w3)
    clear V hW hm R
    go_wp2_with fail
    refine (toF_sl _ zs _ (RV.out.below B3.out) HL.out).mono ?_
    rintro _ w4 ⟨x0, rfl, hp, V, hb⟩
    have X := Lib.hid V
    have XP := Lib.hid (Nat.le_trans B3.out.size hp)
    have B3 := Lib.hid (below_step B3.out hb)
    clear hb
    clear hp V
    have c0 := (A.out.kept B3.out).at 0 rfl; have c1 := (A.out.kept B3.out).at 1 rfl; have c2 := (A.out.kept B3.out).at 2 rfl; have c3 := (A.out.kept B3.out).at 3 rfl; have c4 := (A.out.kept B3.out).at 4 rfl; have c5 := (A.out.kept B3.out).at 5 rfl
    go_wp2_with fail
    refine (toStuff_any s _).mono ?_
    rintro e w5 ⟨rfl, hb⟩
    clear c0 c1 c2 c3 c4 c5
    have B3 := Lib.hid (below_step B3.out hb)
    have X := Lib.hid (X.out.kept hb)
    clear hb
    have XL := Lib.hid X.out.lt
    have B5 := Lib.hid B3.out.size
    go_wp2_with fail
    refine (CI.out _ _ (.of_cells X.out HM.out)).mono ?_
    rintro _ w6 ⟨g, gs, rfl, hO, hg, hb⟩
    obtain ⟨ga, gc, rfl⟩ := hO.shape
    have O := Lib.hid hO
    have GS := Lib.hid (same_of_map hg YM.out)
    have GL : Hid (gs.length ≤ 128) := Lib.hid (by have := len_of_map hg; have := HS.out; omega)
    have GM : Hid (gs.length ≤ maxLen) := Lib.hid (Nat.le_trans GL.out (by decide))
    have H6 := Lib.hid hb.size
    have B3 := Lib.hid (below_step B3.out hb)
    have X := Lib.hid (X.out.kept hb)
    clear hb
    clear hO hg
    generalize w5.heap.size = h5 at *
    go_wp2_with fail
    refine (eqF_any _ _ gs ys _ (O.out.frow GM.out) (Y.out.below B3.out) GS.out).mono ?_
    rintro _ w7 ⟨rfl, n7, rfl⟩
    have hb := below_drewN (Below.refl w6.heap.size w6) n7
    have H6 := Lib.hid (Nat.le_trans H6.out hb.size)
    have B3 := Lib.hid (below_step B3.out hb)
    have X := Lib.hid (X.out.kept hb)
    have O := Lib.hid (O.out.kept hb)
    clear hb
    go_wp2_with fail
    refine (toF_sl _ zs _ (RV.out.below B3.out) HL.out).mono ?_
    rintro _ w8 ⟨z0, rfl, hp, Z, hb⟩
    have H6 := Lib.hid (Nat.le_trans H6.out hb.size)
    have B3 := Lib.hid (below_step B3.out hb)
    have X := Lib.hid (X.out.kept hb)
    have O := Lib.hid (O.out.kept hb)
    clear hb
    clear hp
    go_wp2_with fail
    refine (eqF_any _ _ zs zs _ (.of_cells X.out HM.out) (.of_cells Z HM.out) (.refl zs)).mono ?_
    rintro _ w9 ⟨rfl, n9, rfl⟩
    have hb := below_drewN (Below.refl w8.heap.size w8) n9
    have H6 := Lib.hid (Nat.le_trans H6.out hb.size)
    have B3 := Lib.hid (below_step B3.out hb)
    have X := Lib.hid (X.out.kept hb)
    have O := Lib.hid (O.out.kept hb)
    clear hb
    clear Z
    go_wp2_with fail
    refine (markX x0 zs _ X.out HL.out).mono ?_
    rintro _ w10 ⟨rfl, hon⟩
    have B3 := Lib.hid (B3.out.trans (hon.below XP.out))
    have O := Lib.hid (O.out.far hon XL.out)
    have H6 := Lib.hid (Nat.le_trans H6.out (Nat.le_of_eq hon.size.symm))
    clear hon X
    go_wp2_with fail
    refine (eqF_any _ _ gs ys _ (O.out.frow GM.out) (Y.out.below B3.out) GS.out).mono ?_
    rintro _ w11 ⟨rfl, n11, rfl⟩
    have hb := below_drewN (Below.refl w10.heap.size w10) n11
    have H6 := Lib.hid (Nat.le_trans H6.out hb.size)
    have B3 := Lib.hid (below_step B3.out hb)
    have O := Lib.hid (O.out.kept hb)
    clear hb
    go_wp2_with fail
    refine (markO O.out (Nat.le_trans GL.out (by decide))).mono ?_
    rintro _ w12 ⟨rfl, hO, hm⟩
    have hb := hm H6.out
    have H6 := Lib.hid (Nat.le_trans H6.out hb.size)
    have B3 := Lib.hid (B3.out.trans (hb.mono B5.out))
    have O := Lib.hid hO
    clear hO hm hb
    go_wp2_with fail
    refine (heldO O.out (Nat.le_trans GL.out (by decide))).mono ?_
    rintro _ w13 ⟨rfl, rfl⟩
    have c0 := (A.out.kept B3.out).at 0 rfl; have c1 := (A.out.kept B3.out).at 1 rfl; have c2 := (A.out.kept B3.out).at 2 rfl; have c3 := (A.out.kept B3.out).at 3 rfl; have c4 := (A.out.kept B3.out).at 4 rfl; have c5 := (A.out.kept B3.out).at 5 rfl
    go_wp2_with fail
    refine (toStuff_any s _).mono ?_
    rintro e w14 ⟨rfl, hb⟩
    clear c0 c1 c2 c3 c4 c5
    have B3 := Lib.hid (below_step B3.out hb)
    have O := Lib.hid (O.out.kept hb)
    clear hb
    go_wp2_with fail
    refine (toF_sl _ zs _ (RV.out.below B3.out) HL.out).mono ?_
    rintro _ w15 ⟨z1, rfl, hp, Z, hb⟩
    have B3 := Lib.hid (below_step B3.out hb)
    have O := Lib.hid (O.out.kept hb)
    clear hb
    clear hp
    go_wp2_with fail
    refine (CI.out _ _ (.of_cells Z HM.out)).mono ?_
    rintro _ w16 ⟨f, fs, rfl, hO, hg, hb⟩
    obtain ⟨fa, fc, rfl⟩ := hO.shape
    have FS := Lib.hid (same_of_map hg YM.out)
    have FM : Hid (fs.length ≤ maxLen) := Lib.hid (Nat.le_trans (by have := len_of_map hg; have := HS.out; omega : fs.length ≤ 128) (by decide))
    have FR := Lib.hid (hO.frow FM.out)
    have B3 := Lib.hid (below_step B3.out hb)
    have O := Lib.hid (O.out.kept hb)
    clear hb
    clear hO hg Z
    go_wp2_with fail
    refine (eqF_any _ _ fs ys _ FR.out (Y.out.below B3.out) FS.out).mono ?_
    rintro _ w17 ⟨rfl, n17, rfl⟩
    have hb := below_drewN (Below.refl w16.heap.size w16) n17
    have B3 := Lib.hid (below_step B3.out hb)
    have O := Lib.hid (O.out.kept hb)
    clear hb
    go_wp2_with fail
    refine (heldO O.out (Nat.le_trans GL.out (by decide))).mono ?_
    rintro _ w18 ⟨rfl, rfl⟩
    go_wp2
    go_ret
    exact Tru.below (below_step Bw.out B3.out)
  · go_enter Try.func14, Try.ntmps14
    go_wp2
    go_ret
    exact Tru.below Bw.out
end Go.Proofs.Ytgcgfnpkkhhkgab
