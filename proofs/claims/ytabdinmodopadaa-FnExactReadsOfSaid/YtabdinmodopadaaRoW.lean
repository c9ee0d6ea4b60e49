/- The reads of a track: the law. -/
import Derived.Test.YtabdinmodopadaaRdO
import Derived.Test.YtabdinmodopadaaOpenTr
import Derived.Test.YtabdinmodopadaaMarkO
import Derived.Deep.RegionHeld3
namespace Go.Proofs.Ytabdinmodopadaa
open Go.RowKit
set_option linter.unusedVariables false

set_option maxRecDepth 20000 in
set_option maxHeartbeats 3200000 in
theorem fnExactReadsOf_walk (s : ByteArray) (b : Value) (zs : List Int) (w : World) (h : JRow w b zs) (hs : s.size ≤ maxLen) : Calls Try.prog 7 #[.agg #[.string s, b]] w (Tru w) := by
  have R := Lib.hid (fun w1 (hb : Below w.heap.size w w1) => h.below hb)
  have HS := Lib.hid hs
  clear h hs
  have A := Lib.hid (Cells.made w (tkv s b) 37)
  have Bw := Lib.hid (below_al1 w (.cells (tkv s b).toArray 37))
  by_cases hl : s.size + zs.length ≤ 1048576
  · have HL := Lib.hid hl
    have HN := Lib.hid (show s.size ≤ 1048576 by omega)
    have HZ := Lib.hid (show zs.length ≤ 1048576 by omega)
    have HM := Lib.hid (show zs.length ≤ maxLen from Nat.le_trans (show zs.length ≤ 1048576 by omega) (by decide))
    clear hl
    have CS := Lib.hid (fun b w1 (hr : JRow w1 b zs) => specRo_any s b zs w1 hr HN.out)
    have CI := Lib.hid (fun b w1 (hr : JRow w1 b zs) => implRo_any s b zs w1 hr)
    have SZ := Lib.hid (trS_len s zs)
    generalize trS s zs = S at *
    generalize tkB s zs = bb at *
    have SL : Hid (∀ ys : List Nat, ys.map (cn .f32) = S → ys.length ≤ 400) := Lib.hid (fun ys hm => by rw [len_of_map hm]; exact SZ.out)
    have SM : Hid (∀ n : Nat, n ≤ 400 → n ≤ maxLen) := Lib.hid (fun n hn => Nat.le_trans hn (by decide))
    have EQ := Lib.hid (fun v v1 zs ys w1 (h : FRow w1 v zs) (h1 : FRow w1 v1 ys) (hs : SameList zs ys) => (show Calls Try.prog 15 #[v, v1] w1 (fun e w2 => e = .returned (.bool true) ∧ Below w1.heap.size w1 w2) from (eqF_any v v1 zs ys w1 h h1 hs).mono (fun _ _ ⟨he, n, hw⟩ => ⟨he, by rw [hw]; exact below_drewN (Below.refl _ _) n⟩)))
    go_enter Try.func7, Try.ntmps7
    go_wp2_with fail
    refine (szTk_fit s b zs _ (R.out _ Bw.out) HL.out).mono ?_
    rintro _ w1 ⟨rfl, hb⟩
    have Bw := Lib.hid (below_step Bw.out hb); have A := Lib.hid (A.out.kept hb); have c0 := A.out.at 0 rfl; have c1 := A.out.at 1 rfl; clear hb
    go_wp2_with fail
    refine (toTrack_any s b zs _ (R.out _ Bw.out) HZ.out).mono ?_
    rintro _ w2 ⟨p0, rfl, hp, V, hb⟩
    clear c0 c1
    have Bw := Lib.hid (below_step Bw.out hb); have A := Lib.hid (A.out.kept hb); have c0 := A.out.at 0 rfl; have c1 := A.out.at 1 rfl; have V := Lib.hid V; clear hb hp
    go_wp2_with fail
    refine (CS.out _ _ (V.out.row HM.out)).mono ?_
    rintro _ w3 ⟨y, ys, rfl, hO, hm, hb⟩
    clear c0 c1
    have Y := Lib.hid (hO.frow (SM.out _ (SL.out _ hm)))
    have YM := Lib.hid hm
    have Bw := Lib.hid (below_step Bw.out hb); have A := Lib.hid (A.out.kept hb); have c0 := A.out.at 0 rfl; have c1 := A.out.at 1 rfl; clear hO hm hb V
    have RV := Lib.hid (fun w1 (hb : Below w3.heap.size w3 w1) => R.out w1 (Bw.out.trans (hb.mono Bw.out.size)))
    have AV := Lib.hid (fun w1 (hb : Below w3.heap.size w3 w1) => A.out.kept hb)
    have AL := Lib.hid A.out.lt
    have B3 := Lib.hid (Below.refl w3.heap.size w3)
    clear A R
    go_wp2_with fail
    refine (toTrack_any s b zs _ (RV.out _ B3.out) HZ.out).mono ?_
    rintro _ w4 ⟨x0, rfl, hp, V, hb⟩
    clear c0 c1
    have B3 := Lib.hid (below_step B3.out hb); have c0 := (AV.out _ B3.out).at 0 rfl; have c1 := (AV.out _ B3.out).at 1 rfl; have V := Lib.hid V; have XP := Lib.hid (show w3.heap.size ≤ x0 from hp); clear hb hp
    have XL := Lib.hid V.out.lt
    have X := Lib.hid (Cells.made w4 (tkv s (.slice (some ⟨x0, 0, none⟩) zs.length zs.length)) 40)
    have V := Lib.hid (V.out.kept (below_al1 w4 (.cells (tkv s (.slice (some ⟨x0, 0, none⟩) zs.length zs.length)).toArray 40)))
    have B3 := Lib.hid (below_step B3.out (below_al1 w4 (.cells (tkv s (.slice (some ⟨x0, 0, none⟩) zs.length zs.length)).toArray 40)))
    clear c0 c1
    have c0 := (AV.out _ B3.out).at 0 rfl; have c1 := (AV.out _ B3.out).at 1 rfl
    have XN := Lib.hid (show x0 < (w4.alloc (.cells (tkv s (.slice (some ⟨x0, 0, none⟩) zs.length zs.length)).toArray 40)).heap.size from Nat.lt_of_lt_of_le XL.out (below_al1 w4 (.cells (tkv s (.slice (some ⟨x0, 0, none⟩) zs.length zs.length)).toArray 40)).size)
    go_wp2_with fail
    refine (CI.out _ _ (V.out.row HM.out)).mono ?_
    rintro _ w5 ⟨g, gs, rfl, hO, hm, hb⟩
    clear c0 c1
    have O := Lib.hid hO
    have GM := Lib.hid hm
    have GL := Lib.hid (SL.out _ hm)
    have H6 := Lib.hid hb.size; have B5 := Lib.hid (Nat.le_trans B3.out.size (Nat.le_refl _))
    have X := Lib.hid (X.out.kept hb)
    have V := Lib.hid (V.out.kept hb)
    have XE := Lib.hid (show x0 < w5.heap.size from V.out.lt)
    have B3 := Lib.hid (below_step B3.out hb); clear hO hm hb; have c0 := (AV.out _ B3.out).at 0 rfl; have c1 := (AV.out _ B3.out).at 1 rfl; have d0 := X.out.at 0 rfl; have d1 := X.out.at 1 rfl
    go_wp2_with fail
    refine (EQ.out _ _ gs ys _ (O.out.frow (SM.out _ GL.out)) (Y.out.below B3.out) (same_of_map GM.out YM.out)).mono ?_
    rintro _ w6 ⟨rfl, hb⟩
    clear c0 c1 d0 d1
    have H6 := Lib.hid (Nat.le_trans H6.out hb.size)
    have X := Lib.hid (X.out.kept hb)
    have V := Lib.hid (V.out.kept hb)
    have O := Lib.hid (O.out.kept hb)
    have B3 := Lib.hid (below_step B3.out hb); clear hb; have c0 := (AV.out _ B3.out).at 0 rfl; have c1 := (AV.out _ B3.out).at 1 rfl; have d0 := X.out.at 0 rfl; have d1 := X.out.at 1 rfl
    go_wp2
    generalize w4.heap.size = q at *
    go_region_held3 (fun w' => w'.cell? ⟨w.heap.size, 0, none⟩ = some (.string s) ∧ w'.cell? ⟨w.heap.size, 1, none⟩ = some b ∧ w'.cell? ⟨q, 0, none⟩ = some (.string s) ∧ w'.cell? ⟨q, 1, none⟩ = some (.slice (some ⟨x0, 0, none⟩) zs.length zs.length)) (exact ⟨c0, c1, d0, d1⟩)
      (first
      | (go_at_call 25; refine (toTrack_any s b zs _ (RV.out _ (below_drewN B3.out _)) HZ.out).mono ?_; rintro _ w7 ⟨y0, rfl, hp, Z, hb⟩; have H6 := Lib.hid (Nat.le_trans H6.out ((below_undrew hb)).size); have X := Lib.hid (X.out.kept (below_undrew hb)); have V := Lib.hid (V.out.kept (below_undrew hb)); have O := Lib.hid (O.out.kept (below_undrew hb)); have B3 := Lib.hid (below_step B3.out (below_undrew hb)); have Z := Lib.hid Z; clear hp hb; have c0 := (AV.out _ B3.out).at 0 rfl; have c1 := (AV.out _ B3.out).at 1 rfl; have d0 := X.out.at 0 rfl; have d1 := X.out.at 1 rfl)
      | (go_at_call 27; refine (eqTk_any s _ _ zs _ (V.out.row HM.out) (Z.out.row HM.out)).mono ?_; rintro _ w8 ⟨rfl, hb⟩; have H6 := Lib.hid (Nat.le_trans H6.out (hb).size); have X := Lib.hid (X.out.kept hb); have V := Lib.hid (V.out.kept hb); have O := Lib.hid (O.out.kept hb); have B3 := Lib.hid (below_step B3.out hb); clear hb Z; have c0 := (AV.out _ B3.out).at 0 rfl; have c1 := (AV.out _ B3.out).at 1 rfl; have d0 := X.out.at 0 rfl; have d1 := X.out.at 1 rfl))
    all_goals
      go_wp2_with fail
      refine (markTk_any s x0 zs _ V.out HZ.out).mono ?_
      rintro _ w9 ⟨rfl, T⟩
      clear c0 c1 d0 d1
      have B3 := Lib.hid (B3.out.trans (T.below (fun k hk => by subst hk; exact XP.out) B3.out.size))
      have O := Lib.hid (O.out.tur T (fun k hk => by subst hk; exact XN.out))
      have H6 := Lib.hid (Nat.le_trans H6.out T.size)
      clear T V X
      have c0 := (AV.out _ B3.out).at 0 rfl; have c1 := (AV.out _ B3.out).at 1 rfl
      go_wp2_with fail
      refine (EQ.out _ _ gs ys _ (O.out.frow (SM.out _ GL.out)) (Y.out.below B3.out) (same_of_map GM.out YM.out)).mono ?_
      rintro _ w10 ⟨rfl, hb⟩
      clear c0 c1
      have H6 := Lib.hid (Nat.le_trans H6.out hb.size); have O := Lib.hid (O.out.kept hb); have B3 := Lib.hid (below_step B3.out hb); clear hb; have c0 := (AV.out _ B3.out).at 0 rfl; have c1 := (AV.out _ B3.out).at 1 rfl
      go_wp2_with fail
      refine (markO O.out GL.out).mono ?_
      rintro _ w11 ⟨rfl, hO, hm⟩
      clear c0 c1
      have hb := hm H6.out
      have H6 := Lib.hid (Nat.le_trans H6.out hb.size)
      have B3 := Lib.hid (B3.out.trans (hb.mono B5.out))
      have O := Lib.hid hO
      clear hO hm hb
      have c0 := (AV.out _ B3.out).at 0 rfl; have c1 := (AV.out _ B3.out).at 1 rfl
      go_wp2_with fail
      refine (heldO O.out GL.out).mono ?_
      rintro _ w12 ⟨rfl, rfl⟩
      go_wp2_with fail
      refine (toTrack_any s b zs _ (RV.out _ B3.out) HZ.out).mono ?_
      rintro _ w13 ⟨z0, rfl, hp, Z, hb⟩
      clear c0 c1
      have O := Lib.hid (O.out.kept hb); have B3 := Lib.hid (below_step B3.out hb); have Z := Lib.hid Z; clear hb hp
      go_wp2_with fail
      refine (CI.out _ _ (Z.out.row HM.out)).mono ?_
      rintro _ w14 ⟨f, fs, rfl, hO, hm, hb⟩
      have FR := Lib.hid (hO.frow (SM.out _ (SL.out _ hm)))
      have FM := Lib.hid hm
      clear hO hm Z
      have O := Lib.hid (O.out.kept hb); have B3 := Lib.hid (below_step B3.out hb); clear hb
      go_wp2_with fail
      refine (EQ.out _ _ fs ys _ FR.out (Y.out.below B3.out) (same_of_map FM.out YM.out)).mono ?_
      rintro _ w15 ⟨rfl, hb⟩
      have O := Lib.hid (O.out.kept hb); have B3 := Lib.hid (below_step B3.out hb); clear hb
      go_wp2_with fail
      refine (heldO O.out GL.out).mono ?_
      rintro _ w16 ⟨rfl, rfl⟩
      go_wp2
      go_ret
      exact Tru.below (Bw.out.trans (B3.out.mono Bw.out.size))
  · have HL := Lib.hid (Nat.lt_of_not_le hl)
    clear hl
    go_enter Try.func7, Try.ntmps7
    go_wp2_with fail
    refine (szTk_over s b zs _ (R.out _ Bw.out) HS.out HL.out).mono ?_
    rintro _ w1 ⟨rfl, hb⟩
    have Bw := Lib.hid (below_step Bw.out hb); have A := Lib.hid (A.out.kept hb); have c0 := A.out.at 0 rfl; have c1 := A.out.at 1 rfl; clear hb
    go_wp2
    go_ret
    exact Tru.below Bw.out


end Go.Proofs.Ytabdinmodopadaa
