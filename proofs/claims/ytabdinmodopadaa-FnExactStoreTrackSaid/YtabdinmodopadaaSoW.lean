/- How a track is stored: the law. -/
import Derived.Test.YtabdinmodopadaaSpS
import Derived.Test.YtabdinmodopadaaOpenTr
import Derived.Deep.RegionHeld3
namespace Go.Proofs.Ytabdinmodopadaa
open Go.RowKit
set_option linter.unusedVariables false

set_option maxRecDepth 10000 in
set_option maxHeartbeats 1600000 in
theorem fnExactStoreTrack_walk (s : ByteArray) (b : Value) (zs : List Int) (w : World) (h : JRow w b zs) (hs : s.size ≤ maxLen) : Calls Try.prog 9 #[.agg #[.string s, b]] w (Tru w) := by
  have R := Lib.hid (fun w1 (hb : Below w.heap.size w w1) => h.below hb)
  have HS := Lib.hid hs
  clear h hs
  have A := Lib.hid (Cells.made w (tkv s b) 37)
  have Bw := Lib.hid (below_al1 w (.cells (tkv s b).toArray 37))
  by_cases hl : s.size + zs.length ≤ 1048576
  · have HL := Lib.hid hl
    have HN := Lib.hid (show s.size ≤ 1048576 by omega)
    have HZ := Lib.hid (show zs.length ≤ 1048576 by omega)
    have HM := Lib.hid (show zs.length ≤ maxLen from Nat.le_trans (show zs.length ≤ 1048576 by omega) (by decide))
    clear hl
    have CS := Lib.hid (fun b w1 (hr : JRow w1 b zs) => specSo_any s b zs w1 hr HN.out)
    have CI := Lib.hid (fun b w1 (hr : JRow w1 b zs) => implSo_any s b zs w1 hr)
    generalize stT s zs = S at *
    generalize tkB s zs = ok at *
    go_enter Try.func9, Try.ntmps9
    go_wp2_with fail
    refine (szTk_fit s b zs _ (R.out _ Bw.out) HL.out).mono ?_
    rintro _ w1 ⟨rfl, hb⟩
    have Bw := Lib.hid (below_step Bw.out hb); have A := Lib.hid (A.out.kept hb); have c0 := A.out.at 0 rfl; have c1 := A.out.at 1 rfl; clear hb
    go_wp2_with fail
    refine (toTrack_any s b zs _ (R.out _ Bw.out) HZ.out).mono ?_
    rintro _ w2 ⟨p0, rfl, hp, V, hb⟩
    clear c0 c1
    have Bw := Lib.hid (below_step Bw.out hb); have A := Lib.hid (A.out.kept hb); have c0 := A.out.at 0 rfl; have c1 := A.out.at 1 rfl; have V := Lib.hid V; clear hb hp
    go_wp2_with fail
    refine (CS.out _ _ (V.out.row HM.out)).mono ?_
    rintro _ w3 ⟨rfl, hb⟩
    clear c0 c1
    have Bw := Lib.hid (below_step Bw.out hb); have A := Lib.hid (A.out.kept hb); have c0 := A.out.at 0 rfl; have c1 := A.out.at 1 rfl; clear hb V
    go_wp2_with fail
    refine (toTrack_any s b zs _ (R.out _ Bw.out) HZ.out).mono ?_
    rintro _ w4 ⟨x0, rfl, hp, V, hb⟩
    clear c0 c1
    have Bw := Lib.hid (below_step Bw.out hb); have A := Lib.hid (A.out.kept hb); have c0 := A.out.at 0 rfl; have c1 := A.out.at 1 rfl; have V := Lib.hid V; clear hb hp
    have X := Lib.hid (Cells.made w4 (tkv s (.slice (some ⟨x0, 0, none⟩) zs.length zs.length)) 40)
    have V := Lib.hid (V.out.kept (below_al1 w4 (.cells (tkv s (.slice (some ⟨x0, 0, none⟩) zs.length zs.length)).toArray 40)))
    have A := Lib.hid (A.out.kept (below_al1 w4 (.cells (tkv s (.slice (some ⟨x0, 0, none⟩) zs.length zs.length)).toArray 40)))
    have Bw := Lib.hid (below_step Bw.out (below_al1 w4 (.cells (tkv s (.slice (some ⟨x0, 0, none⟩) zs.length zs.length)).toArray 40)))
    go_wp2_with fail
    refine (CI.out _ _ (V.out.row HM.out)).mono ?_
    rintro _ w5 ⟨rfl, hb⟩
    clear c0 c1
    have Bw := Lib.hid (below_step Bw.out hb); have A := Lib.hid (A.out.kept hb); have X := Lib.hid (X.out.kept hb); have V := Lib.hid (V.out.kept hb); have c0 := A.out.at 0 rfl; have c1 := A.out.at 1 rfl; clear hb
    have d0 := X.out.at 0 rfl; have d1 := X.out.at 1 rfl
    go_wp2
    generalize w4.heap.size = q at *
    go_region_held3 (fun w' => w'.cell? ⟨w.heap.size, 0, none⟩ = some (.string s) ∧ w'.cell? ⟨w.heap.size, 1, none⟩ = some b ∧ w'.cell? ⟨q, 0, none⟩ = some (.string s) ∧ w'.cell? ⟨q, 1, none⟩ = some (.slice (some ⟨x0, 0, none⟩) zs.length zs.length)) (exact ⟨c0, c1, d0, d1⟩)
      (first
      | (go_at_call 25; refine (toTrack_any s b zs _ (R.out _ (below_drewN Bw.out _)) HZ.out).mono ?_; rintro _ w6 ⟨y0, rfl, hp, Z, hb⟩; have Bw := Lib.hid (below_step Bw.out (below_undrew hb)); have A := Lib.hid (A.out.kept (below_undrew hb)); have X := Lib.hid (X.out.kept (below_undrew hb)); have V := Lib.hid (V.out.kept (below_undrew hb)); have Z := Lib.hid Z; clear hp hb; have c0 := A.out.at 0 rfl; have c1 := A.out.at 1 rfl; have d0 := X.out.at 0 rfl; have d1 := X.out.at 1 rfl)
      | (go_at_call 27; refine (eqTk_any s _ _ zs _ (V.out.row HM.out) (Z.out.row HM.out)).mono ?_; rintro _ w7 ⟨rfl, hb⟩; have Bw := Lib.hid (below_step Bw.out hb); have A := Lib.hid (A.out.kept hb); have X := Lib.hid (X.out.kept hb); clear hb; have c0 := A.out.at 0 rfl; have c1 := A.out.at 1 rfl; have d0 := X.out.at 0 rfl; have d1 := X.out.at 1 rfl))
    all_goals
      go_wp2
      go_ret
      exact Tru.below Bw.out
  · have HL := Lib.hid (Nat.lt_of_not_le hl)
    clear hl
    go_enter Try.func9, Try.ntmps9
    go_wp2_with fail
    refine (szTk_over s b zs _ (R.out _ Bw.out) HS.out HL.out).mono ?_
    rintro _ w1 ⟨rfl, hb⟩
    have Bw := Lib.hid (below_step Bw.out hb); have A := Lib.hid (A.out.kept hb); have c0 := A.out.at 0 rfl; have c1 := A.out.at 1 rfl; clear hb
    go_wp2
    go_ret
    exact Tru.below Bw.out

end Go.Proofs.Ytabdinmodopadaa
