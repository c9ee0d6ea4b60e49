/- Medians of reads: both sides, and the law. -/
import Derived.Test.YtabdinmodopadaaMed
import Derived.StillTailTactics
namespace Go.Proofs.Ytabdinmodopadaa
open Go.RowKit
set_option linter.unusedVariables false

set_option maxRecDepth 20000 in
set_option maxHeartbeats 3200000 in
theorem specMl_any (v : Value) (zs : List Nat) (w : World) (h : FRow w v zs) (hn : 1 ≤ zs.length) (hm : zs.length ≤ 128) : Calls Try.prog 47 #[v] w fun e w' => ∃ v', e = .returned v' ∧ Own w' w.heap.size v' (medU zs (zs.length - 2)) ∧ Below w.heap.size w w' := by
  have HC0 := Lib.hid (fun b o c (e : v = .slice (some ⟨b, o, none⟩) zs.length c) w1 (hb : Below w.heap.size w w1) i (hi : i < zs.length) => show w1.cell? ⟨b, o + i, none⟩ = some (.float .f32 (zs.getD i 0)) from by obtain ⟨b9, o9, c9, e9, hc9⟩ := (h.below hb).cells (by omega); rw [e] at e9; cases e9; exact hc9 i hi)
  have HL := Lib.hid (show zs.length ≤ 1048576 by omega)
  obtain ⟨b0, o0, c0, rfl, _⟩ := h.cells hn
  have HC0 := Lib.hid (HC0.out b0 o0 c0 rfl)
  have ML := Lib.hid (medU_len zs)
  have M0 := Lib.hid (show medU zs 0 = zs from rfl)
  have MS := Lib.hid (fun k => show medU zs (k + 1) = (medU zs k).set (k + 1) (med (zs.getD k 0) (zs.getD (k + 1) 0) (zs.getD (k + 2) 0)) from rfl)
  clear h
  generalize hME : medU zs (zs.length - 2) = R at *
  have ME := Lib.hid hME
  clear hME
  have O0 := Lib.hid (Own.empty w w.heap.size (Nat.le_refl _))
  go_enter Try.func47, Try.ntmps47
  go_wp2_with (at_builtin; refine wpList_catF rfl _ _ rfl w.heap.size _ [] zs rfl O0.out b0 o0 c0 rfl (HC0.out _ (below_al1 _ _)) (by simp) HL.out (by simp) ?_; intro v' w1 hown hb; have O1 := Lib.hid hown; have B1 := Lib.hid ((below_al1 _ _).trans hb); clear hown hb)
  have O1 := Lib.hid (show Own w1 w.heap.size v' zs by simpa using O1.out)
  obtain ⟨g, cap, rfl⟩ := O1.out.openS hn
  generalize hnn : zs.length = n at *
  clear hnn
  go_wp2
  go_loopw [4] (fun i wr => ∃ k : Nat, (k = 0 ∨ k + 2 ≤ n) ∧ i = .int .i64 ((k : Int) + 1) ∧ Hid (Own wr w.heap.size (.slice (some ⟨g, 0, none⟩) n cap) (medU zs k)) ∧ Hid (Below w.heap.size w wr)) (fun i _ => n - (intOf i).toNat)
  case atStart => exact ⟨0, .inl rfl, rfl, by rw [M0.out]; exact O1, B1⟩
  case round =>
    obtain ⟨k, hk, rfl, hO, Bw⟩ := hrel
    by_cases hlt : k + 2 < n
    · have z0 := HC0.out wr Bw.out k (by omega)
      have z1 := HC0.out wr Bw.out (k + 1) (by omega)
      have z2 := HC0.out wr Bw.out (k + 1 + 1) (by omega)
      have hgr := hO.out.rowf
      have e3 := hgr.2.cell (i := k + 1) (by rw [ML.out]; omega)
      have e4 := hgr.2.frozen (k + 1)
      rw [Nat.zero_add] at e3
      have HG := Lib.hid hgr.1
      have MSk := Lib.hid (MS.out k)
      clear hgr
      generalize (medU zs k).getD (k + 1) 0 = old at *
      have hi0 : (0 : Int) ≤ (k : Int) := by omega
      have hi1 : (k : Int) < (n : Int) := by omega
      have hi2 : (0 : Int) ≤ (k : Int) + 1 := by omega
      have hi3 : (k : Int) + 1 < (n : Int) := by omega
      have hi4 : (0 : Int) ≤ (k : Int) + 1 + 1 := by omega
      have hi5 : (k : Int) + 1 + 1 < (n : Int) := by omega
      have ht0 : ((k : Int) + 1).toNat = k + 1 := by omega
      have ht1 : ((k : Int) + 1 + 1).toNat = k + 1 + 1 := by omega
      have HW : Hid (IntKind.i64.wrap (k : Int) = (k : Int)) := Lib.hid (IntWalk.i64_in _ (by omega))
      have HX : Hid (IntKind.i64.wrap ((k : Int) + 1 + 1) = (k : Int) + 1 + 1) := Lib.hid (IntWalk.i64_in _ (by omega))
      generalize zs.getD k 0 = x0 at *
      generalize zs.getD (k + 1) 0 = x1 at *
      generalize hx2 : zs.getD (k + 2) 0 = x2 at *
      clear hx2
      cases g0 : mbt x1 x0 x2
      · cases g1 : mbt x0 x1 x2
        · skip
          have MD := Lib.hid (show med x0 x1 x2 = x2 by unfold med; rw [g0, g1]; rfl)
          have H0 := Lib.hid g0
          have H1 := Lib.hid g1
          clear g0 g1
          go_wp2_with fail
          all_goals skip
          refine (specBt_any x1 x0 x2 _).mono ?_
          rw [H0.out]
          rintro e w' ⟨rfl, rfl⟩
          go_wp2_with fail
          refine (specBt_any x0 x1 x2 _).mono ?_
          rw [H1.out]
          rintro e w' ⟨rfl, rfl⟩
          go_wp2
          go_roundw
          case rel =>
            refine ⟨k + 1, .inr (by omega), by go_num, Lib.hid ?_, Lib.hid ?_⟩
            · rw [MSk.out, MD.out]
              exact hO.out.setAt (k + 1) x2
            · exact Bw.out.setCell HG.out _
          case measure => simp [intOf]; omega
        · skip
          have MD := Lib.hid (show med x0 x1 x2 = x0 by unfold med; rw [g0, g1]; rfl)
          have H0 := Lib.hid g0
          have H1 := Lib.hid g1
          clear g0 g1
          go_wp2_with fail
          all_goals skip
          refine (specBt_any x1 x0 x2 _).mono ?_
          rw [H0.out]
          rintro e w' ⟨rfl, rfl⟩
          go_wp2_with fail
          refine (specBt_any x0 x1 x2 _).mono ?_
          rw [H1.out]
          rintro e w' ⟨rfl, rfl⟩
          go_wp2
          go_roundw
          case rel =>
            refine ⟨k + 1, .inr (by omega), by go_num, Lib.hid ?_, Lib.hid ?_⟩
            · rw [MSk.out, MD.out]
              exact hO.out.setAt (k + 1) x0
            · exact Bw.out.setCell HG.out _
          case measure => simp [intOf]; omega
      · skip
        have MD := Lib.hid (show med x0 x1 x2 = x1 by unfold med; rw [g0]; rfl)
        have H0 := Lib.hid g0
        clear g0
        go_wp2_with fail
        all_goals skip
        refine (specBt_any x1 x0 x2 _).mono ?_
        rw [H0.out]
        rintro e w' ⟨rfl, rfl⟩
        go_wp2
        go_roundw
        case rel =>
          refine ⟨k + 1, .inr (by omega), by go_num, Lib.hid ?_, Lib.hid ?_⟩
          · rw [MSk.out, MD.out]
            exact hO.out.setAt (k + 1) x1
          · exact Bw.out.setCell HG.out _
        case measure => simp [intOf]; omega
    · obtain rfl : k = n - 2 := by omega
      go_wp2
      go_ret
      exact ⟨_, rfl, by rw [← ME.out]; exact hO.out, Bw.out⟩

set_option maxRecDepth 20000 in
set_option maxHeartbeats 3200000 in
theorem implMdX_any (v : Value) (zs : List Nat) (w : World) (h : FRow w v zs) (B0 : rds zs = true) : Calls Try.prog 14 #[v] w fun e w' => ∃ q, e = .returned (.tuple #[q, .bool true]) ∧ Own w' w.heap.size q (medU zs (zs.length - 2)) ∧ Below w.heap.size w w' := by
  have Bw := Lib.hid (Below.refl w.heap.size w)
  have Bp := Lib.hid Bw.out
  have HG := Lib.hid (fun w1 (hb : Below w.heap.size w w1) => implRds_any v zs w1 (h.below hb))
  have HR := Lib.hid B0
  have hn := (rds_len B0).1
  have hm := (rds_len B0).2
  clear B0
  have HC0 := Lib.hid (fun b o c (e : v = .slice (some ⟨b, o, none⟩) zs.length c) w1 (hb : Below w.heap.size w w1) i (hi : i < zs.length) => show w1.cell? ⟨b, o + i, none⟩ = some (.float .f32 (zs.getD i 0)) from by obtain ⟨b9, o9, c9, e9, hc9⟩ := (h.below hb).cells (by omega); rw [e] at e9; cases e9; exact hc9 i hi)
  have HL := Lib.hid (show zs.length ≤ 1048576 by omega)
  obtain ⟨b0, o0, c0, rfl, _⟩ := h.cells hn
  have HC0 := Lib.hid (HC0.out b0 o0 c0 rfl)
  have ML := Lib.hid (medU_len zs)
  have M0 := Lib.hid (show medU zs 0 = zs from rfl)
  have MS := Lib.hid (fun k => show medU zs (k + 1) = (medU zs k).set (k + 1) (med (zs.getD k 0) (zs.getD (k + 1) 0) (zs.getD (k + 2) 0)) from rfl)
  clear h
  generalize hME : medU zs (zs.length - 2) = R at *
  have ME := Lib.hid hME
  clear hME
  go_enter Try.func14, Try.ntmps14
  go_wp2_with fail
  refine (HG.out _ (by repeat (first | (with_reducible exact Bw.out) | (with_reducible exact Bp.out) | (with_reducible refine below_drewN ?_ _) | (with_reducible exact Below.refl _ _)))).mono ?_
  rw [HR.out]
  rintro e wg ⟨rfl, hb⟩
  have Bw := Lib.hid (below_step Bw.out (by first | exact hb | exact below_undrew hb))
  have Bp := Lib.hid Bw.out
  clear hb
  go_wp2_with fail
  refine (cloneF_any b0 o0 c0 zs _ (HC0.out _ (by repeat (first | (with_reducible exact Bw.out) | (with_reducible exact Bp.out) | (with_reducible refine below_drewN ?_ _) | (with_reducible exact Below.refl _ _)))) HL.out).mono ?_
  rintro e w1 ⟨v', rfl, ho, hb⟩
  have O1 := Lib.hid (Own.lower ho Bw.out.size)
  have B1 := Lib.hid (Bw.out.trans (hb.mono Bw.out.size))
  clear ho hb Bw Bp
  obtain ⟨g, cap, rfl⟩ := O1.out.openS hn
  generalize hnn : zs.length = n at *
  clear hnn
  go_wp2
  go_loopw [5] (fun i wr => ∃ k : Nat, (k = 0 ∨ k + 2 ≤ n) ∧ i = .int .i64 ((k : Int) + 1) ∧ Hid (Own wr w.heap.size (.slice (some ⟨g, 0, none⟩) n cap) (medU zs k)) ∧ Hid (Below w.heap.size w wr)) (fun i _ => n - (intOf i).toNat)
  case atStart => exact ⟨0, .inl rfl, rfl, by rw [M0.out]; exact O1, B1⟩
  case round =>
    obtain ⟨k, hk, rfl, hO, Bw⟩ := hrel
    by_cases hlt : k + 2 < n
    · have z0 := HC0.out wr Bw.out k (by omega)
      have z1 := HC0.out wr Bw.out (k + 1) (by omega)
      have z2 := HC0.out wr Bw.out (k + 1 + 1) (by omega)
      have hgr := hO.out.rowf
      have e3 := hgr.2.cell (i := k + 1) (by rw [ML.out]; omega)
      have e4 := hgr.2.frozen (k + 1)
      rw [Nat.zero_add] at e3
      have HG := Lib.hid hgr.1
      have MSk := Lib.hid (MS.out k)
      clear hgr
      generalize (medU zs k).getD (k + 1) 0 = old at *
      have hi0 : (0 : Int) ≤ (k : Int) := by omega
      have hi1 : (k : Int) < (n : Int) := by omega
      have hi2 : (0 : Int) ≤ (k : Int) + 1 := by omega
      have hi3 : (k : Int) + 1 < (n : Int) := by omega
      have hi4 : (0 : Int) ≤ (k : Int) + 1 + 1 := by omega
      have hi5 : (k : Int) + 1 + 1 < (n : Int) := by omega
      have ht0 : ((k : Int) + 1).toNat = k + 1 := by omega
      have ht1 : ((k : Int) + 1 + 1).toNat = k + 1 + 1 := by omega
      have HW : Hid (IntKind.i64.wrap (k : Int) = (k : Int)) := Lib.hid (IntWalk.i64_in _ (by omega))
      have HX : Hid (IntKind.i64.wrap ((k : Int) + 1 + 1) = (k : Int) + 1 + 1) := Lib.hid (IntWalk.i64_in _ (by omega))
      generalize zs.getD k 0 = x0 at *
      generalize zs.getD (k + 1) 0 = x1 at *
      generalize hx2 : zs.getD (k + 2) 0 = x2 at *
      clear hx2
      go_wp2
      have hw := HW.out
      have hx := HX.out
      refine wp_region_still_tail 18 (by kernel_rfl) (by kernel_rfl) ?_
      simp only [List.take_succ_cons, List.take_zero, List.drop_succ_cons, List.drop_zero]
      repeat still_step
      still_call (implMed_any x0 x1 x2 _)
      repeat still_step
      refine wpStill_nil ?_
      clear hw hx
      change wpList _ _ _ _ _ wr.drew
      have e3 : wr.drew.cell? ⟨g, k + 1, none⟩ = some (.float .f32 old) := e3
      have e4 : wr.drew.frozen? ⟨g, k + 1, none⟩ = false := e4
      have hO := Lib.hid (show Own wr.drew w.heap.size (.slice (some ⟨g, 0, none⟩) n cap) (medU zs k) from hO.out)
      have Bw := Lib.hid (show Below w.heap.size w wr.drew from below_drewN Bw.out 1)
      clear z0 z1 z2
      generalize wr.drew = w2 at *
      generalize hmd : med x0 x1 x2 = xm at *
      clear hmd
      go_wp2
      go_roundw
      case rel =>
        refine ⟨k + 1, .inr (by omega), by go_num, Lib.hid ?_, Lib.hid ?_⟩
        · rw [MSk.out]
          exact hO.out.setAt (k + 1) xm
        · exact Bw.out.setCell HG.out _
      case measure => simp [intOf]; omega
    · obtain rfl : k = n - 2 := by omega
      go_wp2
      go_ret2
      exact ⟨_, rfl, by rw [← ME.out]; exact hO.out, Bw.out⟩

theorem implMdN_any (v : Value) (zs : List Nat) (w : World) (h : FRow w v zs) (B0 : rds zs = false) : Calls Try.prog 14 #[v] w fun e w' => e = .returned (.tuple #[.slice none 0 0, .bool false]) ∧ Below w.heap.size w w' := by
  have Bw := Lib.hid (Below.refl w.heap.size w)
  have HG := Lib.hid (implRds_any v zs w h)
  have HR := Lib.hid B0
  obtain ⟨a, cap, rfl⟩ := h.shape
  clear h B0
  go_enter Try.func14, Try.ntmps14
  go_wp2_with fail
  refine HG.out.mono ?_
  rw [HR.out]
  rintro e wg ⟨rfl, hb⟩
  have Bw := Lib.hid hb
  clear hb
  go_wp2
  go_ret2
  exact ⟨rfl, Bw.out⟩

set_option maxRecDepth 20000 in
set_option maxHeartbeats 3200000 in
theorem specMdR_any (v : Value) (zs : List Nat) (w : World) (h : FRow w v zs) : Calls Try.prog 12 #[v] w (LstO (medS zs) (rds zs) w) := by
  have Bw := Lib.hid (Below.refl w.heap.size w)
  have Bp := Lib.hid Bw.out
  have HG := Lib.hid (fun w1 (hb : Below w.heap.size w w1) => specRds_any v zs w1 (h.below hb))
  have FN := Lib.hid (fun (e : rds zs = false) w1 (hb : Below w.heap.size w w1) => med_no e hb)
  have FY := Lib.hid (fun (e : rds zs = true) v w1 ho (hb : Below w.heap.size w w1) => med_yes (v := v) e ho hb)
  have HM := Lib.hid (fun (e : rds zs = true) w1 (hb : Below w.heap.size w w1) => specMl_any v zs w1 (h.below hb) (rds_len e).1 (rds_len e).2)
  obtain ⟨a, cap, rfl⟩ := h.shape
  clear h
  generalize hS : medS zs = S at *
  clear hS
  cases B0 : rds zs
  · skip
    have HR := Lib.hid B0
    have E := Lib.hid (FN.out B0)
    clear B0 FN FY HM
    go_enter Try.func12, Try.ntmps12
    go_wp2_with fail
    refine (HG.out _ (by repeat (first | (with_reducible exact Bw.out) | (with_reducible exact Bp.out) | (with_reducible refine below_drewN ?_ _) | (with_reducible exact Below.refl _ _)))).mono ?_
    rw [HR.out]
    rintro e wg ⟨rfl, hb⟩
    have Bw := Lib.hid (below_step Bw.out (by first | exact hb | exact below_undrew hb))
    have Bp := Lib.hid Bw.out
    clear hb
    go_wp2
    go_ret2
    exact E.out _ (by repeat (first | (with_reducible exact Bw.out) | (with_reducible exact Bp.out) | (with_reducible refine below_drewN ?_ _) | (with_reducible exact Below.refl _ _)))
  · skip
    have HR := Lib.hid B0
    have E := Lib.hid (FY.out B0)
    have HM := Lib.hid (HM.out B0)
    clear B0 FN FY
    go_enter Try.func12, Try.ntmps12
    go_wp2_with fail
    refine (HG.out _ (by repeat (first | (with_reducible exact Bw.out) | (with_reducible exact Bp.out) | (with_reducible refine below_drewN ?_ _) | (with_reducible exact Below.refl _ _)))).mono ?_
    rw [HR.out]
    rintro e wg ⟨rfl, hb⟩
    have Bw := Lib.hid (below_step Bw.out (by first | exact hb | exact below_undrew hb))
    have Bp := Lib.hid Bw.out
    clear hb
    go_wp2_with fail
    refine (HM.out _ (by repeat (first | (with_reducible exact Bw.out) | (with_reducible exact Bp.out) | (with_reducible refine below_drewN ?_ _) | (with_reducible exact Below.refl _ _)))).mono ?_
    rintro e w' ⟨q, rfl, ho, hb⟩
    have O := Lib.hid ho
    have Bq := Lib.hid (Bw.out.trans (hb.mono Bw.out.size))
    have BS := Lib.hid Bw.out.size
    clear ho hb
    go_wp2
    go_ret2
    exact E.out _ _ (O.out.lower BS.out) Bq.out

set_option maxRecDepth 20000 in
set_option maxHeartbeats 3200000 in
theorem implMdR_any (v : Value) (zs : List Nat) (w : World) (h : FRow w v zs) : Calls Try.prog 14 #[v] w (LstO (medS zs) (rds zs) w) := by
  have Bw := Lib.hid (Below.refl w.heap.size w)
  have Bp := Lib.hid Bw.out
  have HG := Lib.hid (fun w1 (hb : Below w.heap.size w w1) => implRds_any v zs w1 (h.below hb))
  have FN := Lib.hid (fun (e : rds zs = false) w1 (hb : Below w.heap.size w w1) => med_no e hb)
  have FY := Lib.hid (fun (e : rds zs = true) v w1 ho (hb : Below w.heap.size w w1) => med_yes (v := v) e ho hb)
  have HM := Lib.hid (fun (e : rds zs = true) => implMdX_any v zs w h e)
  obtain ⟨a, cap, rfl⟩ := h.shape
  clear h
  generalize hS : medS zs = S at *
  clear hS
  cases B0 : rds zs
  · skip
    have HR := Lib.hid B0
    have E := Lib.hid (FN.out B0)
    clear B0 FN FY HM
    go_enter Try.func14, Try.ntmps14
    go_wp2_with fail
    refine (HG.out _ (by repeat (first | (with_reducible exact Bw.out) | (with_reducible exact Bp.out) | (with_reducible refine below_drewN ?_ _) | (with_reducible exact Below.refl _ _)))).mono ?_
    rw [HR.out]
    rintro e wg ⟨rfl, hb⟩
    have Bw := Lib.hid (below_step Bw.out (by first | exact hb | exact below_undrew hb))
    have Bp := Lib.hid Bw.out
    clear hb
    go_wp2
    go_ret2
    exact E.out _ (by repeat (first | (with_reducible exact Bw.out) | (with_reducible exact Bp.out) | (with_reducible refine below_drewN ?_ _) | (with_reducible exact Below.refl _ _)))
  · skip
    have HR := Lib.hid B0
    have E := Lib.hid (FY.out B0)
    refine (HM.out B0).mono ?_
    rintro e w' ⟨q, rfl, ho, hb⟩
    exact E.out _ _ ho hb

set_option maxRecDepth 20000 in
set_option maxHeartbeats 3200000 in
theorem fnExactMedianReads_walk (v : Value) (zs : List Nat) (w : World) (h : FRow w v zs) : Calls Try.prog 3 #[v] w (Tru w) := by
  have CS := Lib.hid (fun v w1 (hr : FRow w1 v zs) => specMdR_any v zs w1 hr)
  have CI := Lib.hid (fun v w1 (hr : FRow w1 v zs) => implMdR_any v zs w1 hr)
  have HS := Lib.hid (medS_len zs)
  generalize medS zs = S at *
  generalize rds zs = bb at *
  have HL := Lib.hid h.len
  by_cases hl : zs.length ≤ 1048576
  · have HN := Lib.hid hl
    have A := Lib.hid h
    obtain ⟨a, cap, rfl⟩ := h.shape
    clear h
    have SL : Hid (∀ ys : List Nat, ys.map (cn .f32) = S → ys.length ≤ 400) := Lib.hid (fun ys hm => by rw [len_of_map hm]; exact HS.out)
    have SM : Hid (∀ n : Nat, n ≤ 400 → n ≤ maxLen) := Lib.hid (fun n hn => Nat.le_trans hn (by decide))
    have EQ := Lib.hid (fun v v1 zs ys w1 (h : FRow w1 v zs) (h1 : FRow w1 v1 ys) (hs : SameList zs ys) => (show Calls Try.prog 15 #[v, v1] w1 (fun e w2 => e = .returned (.bool true) ∧ Below w1.heap.size w1 w2) from (eqF_any v v1 zs ys w1 h h1 hs).mono (fun _ _ ⟨he, n, hw⟩ => ⟨he, by rw [hw]; exact below_drewN (Below.refl _ _) n⟩)))
    have Bw := Lib.hid (Below.refl w.heap.size w)
    go_enter Try.func3, Try.ntmps3
    go_wp2_with fail
    refine (toF_new _ zs _ A.out HN.out).mono ?_
    rintro _ w1 ⟨rfl, hr, hb, _⟩
    have X := Lib.hid hr
    clear hr
    have Bw := Lib.hid (below_step Bw.out hb)
    have A := Lib.hid (A.out.below hb)
    clear hb
    go_wp2_with fail
    refine (CS.out _ _ X.out).mono ?_
    rintro _ w2 ⟨y, ys, rfl, hO, hm, hb⟩
    have Y := Lib.hid (hO.frow (SM.out _ (SL.out _ hm)))
    have YM := Lib.hid hm
    clear hO hm X
    have Bw := Lib.hid (below_step Bw.out hb)
    have A := Lib.hid (A.out.below hb)
    clear hb
    have B3 := Lib.hid (Below.refl w2.heap.size w2)
    have RV := Lib.hid A.out
    clear A
    go_wp2_with fail
    refine (toF_new _ zs _ (RV.out.below B3.out) HN.out).mono ?_
    rintro _ w3 ⟨rfl, hr, hb, hcl⟩
    have X := Lib.hid hr
    have XC := Lib.hid hcl
    clear hr hcl
    have B3 := Lib.hid (below_step B3.out hb)
    clear hb
    have XL := Lib.hid XC.out.lt
    have B5 := Lib.hid B3.out.size
    go_wp2_with fail
    refine (CI.out _ _ X.out).mono ?_
    rintro _ w4 ⟨g, gs, rfl, hO, hm, hb⟩
    have O := Lib.hid hO
    have GM := Lib.hid hm
    have GL := Lib.hid (SL.out _ hm)
    have H6 := Lib.hid hb.size
    clear hO hm
    have B3 := Lib.hid (below_step B3.out hb)
    have X := Lib.hid (X.out.below hb)
    have XC := Lib.hid (XC.out.kept hb)
    clear hb
    go_wp2_with fail
    refine (EQ.out _ _ gs ys _ (O.out.frow (SM.out _ GL.out)) (Y.out.below B3.out) (same_of_map GM.out YM.out)).mono ?_
    rintro _ w5 ⟨rfl, hb⟩
    have H6 := Lib.hid (Nat.le_trans H6.out hb.size)
    have B3 := Lib.hid (below_step B3.out hb)
    have X := Lib.hid (X.out.below hb)
    have XC := Lib.hid (XC.out.kept hb)
    have O := Lib.hid (O.out.kept hb)
    clear hb
    go_wp2_with fail
    refine (toF_new _ zs _ (RV.out.below B3.out) HN.out).mono ?_
    rintro _ w6 ⟨rfl, hr, hb, _⟩
    have Z := Lib.hid hr
    clear hr
    have H6 := Lib.hid (Nat.le_trans H6.out hb.size)
    have B3 := Lib.hid (below_step B3.out hb)
    have X := Lib.hid (X.out.below hb)
    have XC := Lib.hid (XC.out.kept hb)
    have O := Lib.hid (O.out.kept hb)
    clear hb
    go_wp2_with fail
    refine (EQ.out _ _ zs zs _ X.out Z.out (SameList.refl _)).mono ?_
    rintro _ w7 ⟨rfl, hb⟩
    clear Z X
    have H6 := Lib.hid (Nat.le_trans H6.out hb.size)
    have B3 := Lib.hid (below_step B3.out hb)
    have XC := Lib.hid (XC.out.kept hb)
    have O := Lib.hid (O.out.kept hb)
    clear hb
    go_wp2_with fail
    refine (markX _ zs _ XC.out HN.out).mono ?_
    rintro _ w8 ⟨rfl, hon⟩
    have B3 := Lib.hid (B3.out.trans (hon.below (Nat.le_refl _)))
    have O := Lib.hid (O.out.far hon XL.out)
    have H6 := Lib.hid (Nat.le_trans H6.out (hon.below (Nat.zero_le _)).size)
    clear hon XC
    go_wp2_with fail
    refine (EQ.out _ _ gs ys _ (O.out.frow (SM.out _ GL.out)) (Y.out.below B3.out) (same_of_map GM.out YM.out)).mono ?_
    rintro _ w9 ⟨rfl, hb⟩
    have H6 := Lib.hid (Nat.le_trans H6.out hb.size)
    have B3 := Lib.hid (below_step B3.out hb)
    have O := Lib.hid (O.out.kept hb)
    clear hb
    go_wp2_with fail
    refine (markO O.out GL.out).mono ?_
    rintro _ w10 ⟨rfl, hO, hm⟩
    have hb := hm H6.out
    have H6 := Lib.hid (Nat.le_trans H6.out hb.size)
    have B3 := Lib.hid (B3.out.trans (hb.mono B5.out))
    have O := Lib.hid hO
    clear hO hm hb
    go_wp2_with fail
    refine (heldO O.out GL.out).mono ?_
    rintro _ w11 ⟨rfl, rfl⟩
    go_wp2_with fail
    refine (toF_new _ zs _ (RV.out.below B3.out) HN.out).mono ?_
    rintro _ w12 ⟨rfl, hr, hb, _⟩
    have Z := Lib.hid hr
    clear hr
    have B3 := Lib.hid (below_step B3.out hb)
    have O := Lib.hid (O.out.kept hb)
    clear hb
    go_wp2_with fail
    refine (CI.out _ _ Z.out).mono ?_
    rintro _ w13 ⟨f, fs, rfl, hO, hm, hb⟩
    have FR := Lib.hid (hO.frow (SM.out _ (SL.out _ hm)))
    have FM := Lib.hid hm
    clear hO hm Z
    have B3 := Lib.hid (below_step B3.out hb)
    have O := Lib.hid (O.out.kept hb)
    clear hb
    go_wp2_with fail
    refine (EQ.out _ _ fs ys _ FR.out (Y.out.below B3.out) (same_of_map FM.out YM.out)).mono ?_
    rintro _ w14 ⟨rfl, hb⟩
    have B3 := Lib.hid (below_step B3.out hb)
    have O := Lib.hid (O.out.kept hb)
    clear hb
    go_wp2_with fail
    refine (heldO O.out GL.out).mono ?_
    rintro _ w15 ⟨rfl, rfl⟩
    go_wp2
    go_ret
    exact Tru.below (below_step Bw.out B3.out)
  · obtain ⟨a, cap, rfl⟩ := h.shape
    clear h
    have gL := HL.out
    go_enter Try.func3, Try.ntmps3
    go_wp2
    go_ret
    exact Tru.same


end Go.Proofs.Ytabdinmodopadaa
