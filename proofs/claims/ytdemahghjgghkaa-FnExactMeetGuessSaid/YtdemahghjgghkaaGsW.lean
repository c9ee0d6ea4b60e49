/- Guesses that drift and meet: both sides, and the laws. -/
import Derived.Test.YtdemahghjgghkaaGs
import Derived.Test.YtdemahghjgghkaaFu
namespace Go.Proofs.Ytdemahghjgghkaa
open Go.RowKit
set_option linter.unusedVariables false

def drA (m s d n : Nat) : Nat := (fop .add .f32 m d)
def drC (m s d n : Nat) : Nat := (fop .add .f32 s n)
theorem drA_of {m s d n r0 : Nat} (f0 : FR .add .f32 m d r0) : cn .f32 r0 = drA m s d n := by
  unfold drA
  simp only [f0.1, fopl', fopr']
theorem drC_of {m s d n r1 : Nat} (f1 : FR .add .f32 s n r1) : cn .f32 r1 = drC m s d n := by
  unfold drC
  simp only [f1.1, fopl', fopr']
def drG (m s d n : Nat) : Bool := gsv m s && fin .f32 d && lst n
def drO (m s d n : Nat) : Bool := drG m s d n && gsv (drA m s d n) (drC m s d n)
theorem dr_no {m s d n : Nat} {w w' : World} (e : drG m s d n = false) (hb : Below w.heap.size w w') : GsB (bif drO m s d n then drA m s d n else 0) (bif drO m s d n then drC m s d n else 0) (drO m s d n) w (.returned (.tuple #[.agg #[.float .f32 0, .float .f32 0], .bool false])) w' := by
  have : drO m s d n = false := by unfold drO; rw [e]; rfl
  rw [this]; exact ⟨0, 0, rfl, rfl, rfl, hb⟩
theorem dr_yes {m s d n x y p q : Nat} {w w' : World} (e : drG m s d n = true) (hx : cn .f32 x = drA m s d n) (hy : cn .f32 y = drC m s d n) (hc : p = (bif gsv x y then x else 0)) (hd : q = (bif gsv x y then y else 0)) (hb : Below w.heap.size w w') : GsB (bif drO m s d n then drA m s d n else 0) (bif drO m s d n then drC m s d n else 0) (drO m s d n) w (.returned (.tuple #[.agg #[.float .f32 p, .float .f32 q], .bool (gsv x y)])) w' := by
  have : drO m s d n = gsv (drA m s d n) (drC m s d n) := by unfold drO; rw [e]; rfl
  obtain ⟨h1, h2, h3⟩ := gs_end hx hy hc hd
  rw [this, h3]; exact ⟨p, q, h1, h2, rfl, hb⟩

set_option maxRecDepth 20000 in
set_option maxHeartbeats 1600000 in
theorem specDr_any (m s d n : Nat) (w : World) : Calls Try.prog 32 #[.agg #[.float .f32 m, .float .f32 s], .float .f32 d, .float .f32 n] w (GsB (bif drO m s d n then drA m s d n else 0) (bif drO m s d n then drC m s d n else 0) (drO m s d n) w) := by
  have A := Lib.hid ((Cells.made w [Value.float .f32 m, .float .f32 s] 42).al (.cells ([Value.float .f32 0, .float .f32 0]).toArray 42))
  have X := Cells.made (w.alloc (.cells ([Value.float .f32 m, .float .f32 s]).toArray 42)) [Value.float .f32 0, .float .f32 0] 42
  rw [show (w.alloc (.cells ([Value.float .f32 m, .float .f32 s]).toArray 42)).heap.size = w.heap.size + 1 from by simp] at X
  have X := Lib.hid X
  have Bw := Lib.hid (below_al2 w (.cells ([Value.float .f32 m, .float .f32 s]).toArray 42) (.cells ([Value.float .f32 0, .float .f32 0]).toArray 42))
  have Bp := Lib.hid Bw.out
  have FN := Lib.hid (fun (e : drG m s d n = false) w1 (hb : Below w.heap.size w w1) => @dr_no m s d n w w1 e hb)
  have FY := Lib.hid (fun (e : drG m s d n = true) x y p q w1 hx hy hc hd (hb : Below w.heap.size w w1) => @dr_yes m s d n x y p q w w1 e hx hy hc hd hb)
  have AO := Lib.hid (fun r0 f0 => @drA_of m s d n r0 f0)
  have CO := Lib.hid (fun r1 f1 => @drC_of m s d n r1 f1)
  generalize (bif drO m s d n then drA m s d n else 0) = U at *
  generalize (bif drO m s d n then drC m s d n else 0) = V at *
  generalize (drO m s d n) = O at *
  cases B0 : gsv m s
  · skip
    have E := Lib.hid (show drG m s d n = false by unfold drG; simp [B0])
    have H0 := Lib.hid B0
    clear B0 FY AO CO
    go_enter Try.func32, Try.ntmps32
    go_wp2_with fail
    refine (specGs_any m s _ _ A.out).mono ?_
    rw [H0.out]
    rintro e w' ⟨rfl, ng, rfl⟩
    have Bw := Lib.hid (below_drewN Bw.out ng)
    have c0 := A.out.at 0 rfl
    have c1 := A.out.at 1 rfl
    have d0 := X.out.at 0 rfl
    have d1 := X.out.at 1 rfl
    have e0 := X.out.fz 0
    have e1 := X.out.fz 1
    go_wp2
    refine bodyPost_ret (v := .tuple #[.agg #[.float .f32 0, .float .f32 0], .bool false]) ?_ rfl ?_
    · rw [results_cell_tmp rfl]
      go_simp
    · exact FN.out E.out _ (by repeat (first | (with_reducible refine Below.setCell ?_ (by first | exact Nat.le_refl _ | (simp; done) | (simp; omega) | omega) _) | (with_reducible refine below_drewN ?_ _) | (with_reducible refine Below.drew ?_) | (with_reducible exact Bw.out) | (with_reducible exact Bp.out) | (with_reducible exact Below.refl _ _) | (with_reducible refine Below.alloc ?_ (by first | exact Nat.le_refl _ | (simp; done) | (simp; omega) | omega) _)))
  · skip
    cases B1 : fin .f32 d
    · skip
      have E := Lib.hid (show drG m s d n = false by unfold drG; simp [B0, B1])
      have H0 := Lib.hid B0
      have H1 := Lib.hid B1
      clear B0 B1 FY AO CO
      go_enter Try.func32, Try.ntmps32
      go_wp2_with fail
      refine (specGs_any m s _ _ A.out).mono ?_
      rw [H0.out]
      rintro e w' ⟨rfl, ng, rfl⟩
      have Bw := Lib.hid (below_drewN Bw.out ng)
      have c0 := A.out.at 0 rfl
      have c1 := A.out.at 1 rfl
      have d0 := X.out.at 0 rfl
      have d1 := X.out.at 1 rfl
      have e0 := X.out.fz 0
      have e1 := X.out.fz 1
      go_wp2_with fail
      refine (specFinite_any d _).mono ?_
      rw [H1.out]
      rintro e w' ⟨rfl, na, rfl⟩
      have Bw := Lib.hid (below_drewN Bw.out na)
      go_wp2
      refine bodyPost_ret (v := .tuple #[.agg #[.float .f32 0, .float .f32 0], .bool false]) ?_ rfl ?_
      · rw [results_cell_tmp rfl]
        go_simp
      · exact FN.out E.out _ (by repeat (first | (with_reducible refine Below.setCell ?_ (by first | exact Nat.le_refl _ | (simp; done) | (simp; omega) | omega) _) | (with_reducible refine below_drewN ?_ _) | (with_reducible refine Below.drew ?_) | (with_reducible exact Bw.out) | (with_reducible exact Bp.out) | (with_reducible exact Below.refl _ _) | (with_reducible refine Below.alloc ?_ (by first | exact Nat.le_refl _ | (simp; done) | (simp; omega) | omega) _)))
    · skip
      cases B2 : lst n
      · skip
        have E := Lib.hid (show drG m s d n = false by unfold drG; simp [B0, B1, B2])
        have H0 := Lib.hid B0
        have H1 := Lib.hid B1
        have H2 := Lib.hid B2
        clear B0 B1 B2 FY AO CO
        go_enter Try.func32, Try.ntmps32
        go_wp2_with fail
        refine (specGs_any m s _ _ A.out).mono ?_
        rw [H0.out]
        rintro e w' ⟨rfl, ng, rfl⟩
        have Bw := Lib.hid (below_drewN Bw.out ng)
        have c0 := A.out.at 0 rfl
        have c1 := A.out.at 1 rfl
        have d0 := X.out.at 0 rfl
        have d1 := X.out.at 1 rfl
        have e0 := X.out.fz 0
        have e1 := X.out.fz 1
        go_wp2_with fail
        refine (specFinite_any d _).mono ?_
        rw [H1.out]
        rintro e w' ⟨rfl, na, rfl⟩
        have Bw := Lib.hid (below_drewN Bw.out na)
        go_wp2_with fail
        refine (specLeast_any n _).mono ?_
        rw [H2.out]
        rintro e w' ⟨rfl, nb, rfl⟩
        have Bw := Lib.hid (below_drewN Bw.out nb)
        go_wp2
        refine bodyPost_ret (v := .tuple #[.agg #[.float .f32 0, .float .f32 0], .bool false]) ?_ rfl ?_
        · rw [results_cell_tmp rfl]
          go_simp
        · exact FN.out E.out _ (by repeat (first | (with_reducible refine Below.setCell ?_ (by first | exact Nat.le_refl _ | (simp; done) | (simp; omega) | omega) _) | (with_reducible refine below_drewN ?_ _) | (with_reducible refine Below.drew ?_) | (with_reducible exact Bw.out) | (with_reducible exact Bp.out) | (with_reducible exact Below.refl _ _) | (with_reducible refine Below.alloc ?_ (by first | exact Nat.le_refl _ | (simp; done) | (simp; omega) | omega) _)))
      · skip
        have E := Lib.hid (show drG m s d n = true by unfold drG; simp [B0, B1, B2])
        have H0 := Lib.hid B0
        have H1 := Lib.hid B1
        have H2 := Lib.hid B2
        clear B0 B1 B2 FN
        go_enter Try.func32, Try.ntmps32
        go_wp2_with fail
        refine (specGs_any m s _ _ A.out).mono ?_
        rw [H0.out]
        rintro e w' ⟨rfl, ng, rfl⟩
        have Bw := Lib.hid (below_drewN Bw.out ng)
        have c0 := A.out.at 0 rfl
        have c1 := A.out.at 1 rfl
        have d0 := X.out.at 0 rfl
        have d1 := X.out.at 1 rfl
        have e0 := X.out.fz 0
        have e1 := X.out.fz 1
        go_wp2_with fail
        refine (specFinite_any d _).mono ?_
        rw [H1.out]
        rintro e w' ⟨rfl, na, rfl⟩
        have Bw := Lib.hid (below_drewN Bw.out na)
        go_wp2_with fail
        refine (specLeast_any n _).mono ?_
        rw [H2.out]
        rintro e w' ⟨rfl, nb, rfl⟩
        have Bw := Lib.hid (below_drewN Bw.out nb)
        go_wp2_with (refine wpList_farith rfl _ _ _ _ _ rfl rfl _ _ _ rfl rfl ?_; intro r0 j0 g0; have f0 := Lib.hid g0; clear g0; refine Stop.go ?_)
        refine Stop.mk ?_
        go_wp2_with (refine wpList_farith rfl _ _ _ _ _ rfl rfl _ _ _ rfl rfl ?_; intro r1 j1 g1; have f1 := Lib.hid g1; clear g1; refine Stop.go ?_)
        refine Stop.mk ?_
        have HX := Lib.hid (AO.out _ f0.out)
        have HY := Lib.hid (CO.out _ f1.out)
        clear f0 f1 AO CO
        go_wp2_with fail
        refine (specGsGive_any r0 r1 _).mono ?_
        rintro e w6 ⟨p, q, hc, hd, rfl, hb⟩
        have HC := Lib.hid hc
        have HD := Lib.hid hd
        clear hc hd
        have X := Lib.hid (X.out.kept (by first | exact hb | exact below_undrew hb | exact below_undrew (below_undrew hb)))
        have Bw := Lib.hid (below_step Bp.out (by first | exact below_undrew hb | exact hb))
        have Bp := Lib.hid Bw.out
        clear hb c0 c1 d0 d1 e0 e1
        have d0 := X.out.at 0 rfl
        have d1 := X.out.at 1 rfl
        have e0 := X.out.fz 0
        have e1 := X.out.fz 1
        go_wp2
        refine bodyPost_ret (v := .tuple #[.agg #[.float .f32 p, .float .f32 q], .bool (gsv r0 r1)]) ?_ rfl ?_
        · rw [results_cell_tmp rfl]
          go_simp
        · exact FY.out E.out r0 r1 p q _ HX.out HY.out HC.out HD.out (by repeat (first | (with_reducible refine Below.setCell ?_ (by first | exact Nat.le_refl _ | (simp; done) | (simp; omega) | omega) _) | (with_reducible refine below_drewN ?_ _) | (with_reducible refine Below.drew ?_) | (with_reducible exact Bw.out) | (with_reducible exact Bp.out) | (with_reducible exact Below.refl _ _) | (with_reducible refine Below.alloc ?_ (by first | exact Nat.le_refl _ | (simp; done) | (simp; omega) | omega) _)))
        
set_option maxRecDepth 20000 in
set_option maxHeartbeats 1600000 in
theorem implDr_any (m s d n : Nat) (w : World) : Calls Try.prog 34 #[.agg #[.float .f32 m, .float .f32 s], .float .f32 d, .float .f32 n] w (GsB (bif drO m s d n then drA m s d n else 0) (bif drO m s d n then drC m s d n else 0) (drO m s d n) w) := by
  have A := Lib.hid ((Cells.made w [Value.float .f32 m, .float .f32 s] 42).al (.cells ([Value.float .f32 0, .float .f32 0]).toArray 42))
  have X := Cells.made (w.alloc (.cells ([Value.float .f32 m, .float .f32 s]).toArray 42)) [Value.float .f32 0, .float .f32 0] 42
  rw [show (w.alloc (.cells ([Value.float .f32 m, .float .f32 s]).toArray 42)).heap.size = w.heap.size + 1 from by simp] at X
  have X := Lib.hid X
  have Bw := Lib.hid (below_al2 w (.cells ([Value.float .f32 m, .float .f32 s]).toArray 42) (.cells ([Value.float .f32 0, .float .f32 0]).toArray 42))
  have Bp := Lib.hid Bw.out
  have FN := Lib.hid (fun (e : drG m s d n = false) w1 (hb : Below w.heap.size w w1) => @dr_no m s d n w w1 e hb)
  have FY := Lib.hid (fun (e : drG m s d n = true) x y p q w1 hx hy hc hd (hb : Below w.heap.size w w1) => @dr_yes m s d n x y p q w w1 e hx hy hc hd hb)
  have AO := Lib.hid (fun r0 f0 => @drA_of m s d n r0 f0)
  have CO := Lib.hid (fun r1 f1 => @drC_of m s d n r1 f1)
  generalize (bif drO m s d n then drA m s d n else 0) = U at *
  generalize (bif drO m s d n then drC m s d n else 0) = V at *
  generalize (drO m s d n) = O at *
  cases B0 : gsv m s
  · skip
    have E := Lib.hid (show drG m s d n = false by unfold drG; simp [B0])
    have H0 := Lib.hid B0
    clear B0 FY AO CO
    go_enter Try.func34, Try.ntmps34
    go_wp2_with fail
    refine (implGs_any m s _).mono ?_
    rw [H0.out]
    rintro e wg0 ⟨rfl, hb⟩
    have A := Lib.hid (A.out.kept hb)
    have X := Lib.hid (X.out.kept hb)
    have Bw := Lib.hid (below_step Bw.out hb)
    have Bp := Lib.hid Bw.out
    clear hb
    have c0 := A.out.at 0 rfl
    have c1 := A.out.at 1 rfl
    have d0 := X.out.at 0 rfl
    have d1 := X.out.at 1 rfl
    have e0 := X.out.fz 0
    have e1 := X.out.fz 1
    go_wp2
    refine bodyPost_ret (v := .tuple #[.agg #[.float .f32 0, .float .f32 0], .bool false]) ?_ rfl ?_
    · rw [results_cell_tmp rfl]
      go_simp
    · exact FN.out E.out _ (by repeat (first | (with_reducible refine Below.setCell ?_ (by first | exact Nat.le_refl _ | (simp; done) | (simp; omega) | omega) _) | (with_reducible refine below_drewN ?_ _) | (with_reducible refine Below.drew ?_) | (with_reducible exact Bw.out) | (with_reducible exact Bp.out) | (with_reducible exact Below.refl _ _) | (with_reducible refine Below.alloc ?_ (by first | exact Nat.le_refl _ | (simp; done) | (simp; omega) | omega) _)))
  · skip
    cases B1 : fin .f32 d
    · skip
      have E := Lib.hid (show drG m s d n = false by unfold drG; simp [B0, B1])
      have H0 := Lib.hid B0
      have H1 := Lib.hid B1
      clear B0 B1 FY AO CO
      go_enter Try.func34, Try.ntmps34
      go_wp2_with fail
      refine (implGs_any m s _).mono ?_
      rw [H0.out]
      rintro e wg0 ⟨rfl, hb⟩
      have A := Lib.hid (A.out.kept hb)
      have X := Lib.hid (X.out.kept hb)
      have Bw := Lib.hid (below_step Bw.out hb)
      have Bp := Lib.hid Bw.out
      clear hb
      have c0 := A.out.at 0 rfl
      have c1 := A.out.at 1 rfl
      have d0 := X.out.at 0 rfl
      have d1 := X.out.at 1 rfl
      have e0 := X.out.fz 0
      have e1 := X.out.fz 1
      go_wp2_with fail
      refine (implFinite_any d _).mono ?_
      rw [H1.out]
      rintro e w' ⟨rfl, na, rfl⟩
      have Bw := Lib.hid (below_drewN Bw.out na)
      go_wp2
      refine bodyPost_ret (v := .tuple #[.agg #[.float .f32 0, .float .f32 0], .bool false]) ?_ rfl ?_
      · rw [results_cell_tmp rfl]
        go_simp
      · exact FN.out E.out _ (by repeat (first | (with_reducible refine Below.setCell ?_ (by first | exact Nat.le_refl _ | (simp; done) | (simp; omega) | omega) _) | (with_reducible refine below_drewN ?_ _) | (with_reducible refine Below.drew ?_) | (with_reducible exact Bw.out) | (with_reducible exact Bp.out) | (with_reducible exact Below.refl _ _) | (with_reducible refine Below.alloc ?_ (by first | exact Nat.le_refl _ | (simp; done) | (simp; omega) | omega) _)))
    · skip
      cases B2 : lst n
      · skip
        have E := Lib.hid (show drG m s d n = false by unfold drG; simp [B0, B1, B2])
        have H0 := Lib.hid B0
        have H1 := Lib.hid B1
        have H2 := Lib.hid B2
        clear B0 B1 B2 FY AO CO
        go_enter Try.func34, Try.ntmps34
        go_wp2_with fail
        refine (implGs_any m s _).mono ?_
        rw [H0.out]
        rintro e wg0 ⟨rfl, hb⟩
        have A := Lib.hid (A.out.kept hb)
        have X := Lib.hid (X.out.kept hb)
        have Bw := Lib.hid (below_step Bw.out hb)
        have Bp := Lib.hid Bw.out
        clear hb
        have c0 := A.out.at 0 rfl
        have c1 := A.out.at 1 rfl
        have d0 := X.out.at 0 rfl
        have d1 := X.out.at 1 rfl
        have e0 := X.out.fz 0
        have e1 := X.out.fz 1
        go_wp2_with fail
        refine (implFinite_any d _).mono ?_
        rw [H1.out]
        rintro e w' ⟨rfl, na, rfl⟩
        have Bw := Lib.hid (below_drewN Bw.out na)
        go_wp2_with fail
        refine (implNotNeg_any n _).mono ?_
        rw [H2.out]
        rintro e w' ⟨rfl, nb, rfl⟩
        have Bw := Lib.hid (below_drewN Bw.out nb)
        go_wp2
        refine bodyPost_ret (v := .tuple #[.agg #[.float .f32 0, .float .f32 0], .bool false]) ?_ rfl ?_
        · rw [results_cell_tmp rfl]
          go_simp
        · exact FN.out E.out _ (by repeat (first | (with_reducible refine Below.setCell ?_ (by first | exact Nat.le_refl _ | (simp; done) | (simp; omega) | omega) _) | (with_reducible refine below_drewN ?_ _) | (with_reducible refine Below.drew ?_) | (with_reducible exact Bw.out) | (with_reducible exact Bp.out) | (with_reducible exact Below.refl _ _) | (with_reducible refine Below.alloc ?_ (by first | exact Nat.le_refl _ | (simp; done) | (simp; omega) | omega) _)))
      · skip
        have E := Lib.hid (show drG m s d n = true by unfold drG; simp [B0, B1, B2])
        have H0 := Lib.hid B0
        have H1 := Lib.hid B1
        have H2 := Lib.hid B2
        clear B0 B1 B2 FN
        go_enter Try.func34, Try.ntmps34
        go_wp2_with fail
        refine (implGs_any m s _).mono ?_
        rw [H0.out]
        rintro e wg0 ⟨rfl, hb⟩
        have A := Lib.hid (A.out.kept hb)
        have X := Lib.hid (X.out.kept hb)
        have Bw := Lib.hid (below_step Bw.out hb)
        have Bp := Lib.hid Bw.out
        clear hb
        have c0 := A.out.at 0 rfl
        have c1 := A.out.at 1 rfl
        have d0 := X.out.at 0 rfl
        have d1 := X.out.at 1 rfl
        have e0 := X.out.fz 0
        have e1 := X.out.fz 1
        go_wp2_with fail
        refine (implFinite_any d _).mono ?_
        rw [H1.out]
        rintro e w' ⟨rfl, na, rfl⟩
        have Bw := Lib.hid (below_drewN Bw.out na)
        go_wp2_with fail
        refine (implNotNeg_any n _).mono ?_
        rw [H2.out]
        rintro e w' ⟨rfl, nb, rfl⟩
        have Bw := Lib.hid (below_drewN Bw.out nb)
        go_wp2_with (refine wpList_farith rfl _ _ _ _ _ rfl rfl _ _ _ rfl rfl ?_; intro r0 j0 g0; have f0 := Lib.hid g0; clear g0; refine Stop.go ?_)
        refine Stop.mk ?_
        go_wp2_with (refine wpList_farith rfl _ _ _ _ _ rfl rfl _ _ _ rfl rfl ?_; intro r1 j1 g1; have f1 := Lib.hid g1; clear g1; refine Stop.go ?_)
        refine Stop.mk ?_
        have HX := Lib.hid (AO.out _ f0.out)
        have HY := Lib.hid (CO.out _ f1.out)
        clear f0 f1 AO CO
        go_wp2_with fail
        refine (implGsGive_any r0 r1 _).mono ?_
        rintro e w6 ⟨p, q, hc, hd, rfl, hb⟩
        have HC := Lib.hid hc
        have HD := Lib.hid hd
        clear hc hd
        have X := Lib.hid (X.out.kept (by first | exact hb | exact below_undrew hb | exact below_undrew (below_undrew hb)))
        have Bw := Lib.hid (below_step Bp.out (by first | exact below_undrew hb | exact hb))
        have Bp := Lib.hid Bw.out
        clear hb c0 c1 d0 d1 e0 e1
        have d0 := X.out.at 0 rfl
        have d1 := X.out.at 1 rfl
        have e0 := X.out.fz 0
        have e1 := X.out.fz 1
        go_wp2
        refine bodyPost_ret (v := .tuple #[.agg #[.float .f32 p, .float .f32 q], .bool (gsv r0 r1)]) ?_ rfl ?_
        · rw [results_cell_tmp rfl]
          go_simp
        · exact FY.out E.out r0 r1 p q _ HX.out HY.out HC.out HD.out (by repeat (first | (with_reducible refine Below.setCell ?_ (by first | exact Nat.le_refl _ | (simp; done) | (simp; omega) | omega) _) | (with_reducible refine below_drewN ?_ _) | (with_reducible refine Below.drew ?_) | (with_reducible exact Bw.out) | (with_reducible exact Bp.out) | (with_reducible exact Below.refl _ _) | (with_reducible refine Below.alloc ?_ (by first | exact Nat.le_refl _ | (simp; done) | (simp; omega) | omega) _)))
        
set_option maxRecDepth 20000 in
set_option maxHeartbeats 1600000 in
theorem fnExactDriftGuess_walk (m s d n : Nat) (w : World) (_ : (Lit.float .f32 d).wf = true) (_ : (Lit.float .f32 n).wf = true) : Calls Try.prog 10 #[.agg #[.float .f32 m, .float .f32 s], .float .f32 d, .float .f32 n] w (Tru w) := by
  have A := Lib.hid (Cells.made w [.float .f32 m, .float .f32 s] 41)
  have Bw := Lib.hid (below_al1 w (.cells #[.float .f32 m, .float .f32 s] 41))
  have SP := Lib.hid (specDr_any m s d n)
  have IP := Lib.hid (implDr_any m s d n)
  unfold GsB at SP IP
  generalize (bif drO m s d n then drA m s d n else 0) = U at *
  generalize (bif drO m s d n then drC m s d n else 0) = V at *
  generalize (drO m s d n) = O at *
  go_enter Try.func10, Try.ntmps10
  go_wp2_with fail
  refine (toGuess_any m s _).mono ?_
  rintro e w1 ⟨rfl, hb⟩
  have A := Lib.hid (A.out.kept hb)
  have Bw := Lib.hid (below_step Bw.out hb)
  clear hb
  go_wp2_with fail
  refine (SP.out _).mono ?_
  rintro e w2 ⟨x, y, hx, hy, rfl, hb⟩
  have X1 := Lib.hid hx
  have Y1 := Lib.hid hy
  have A := Lib.hid (A.out.kept hb)
  have Bw := Lib.hid (below_step Bw.out hb)
  clear hb hx hy
  have A := Lib.hid (A.out.al (.cells ([Value.float .f32 x, .float .f32 y]).toArray 42))
  have X := Lib.hid (Cells.made w2 [Value.float .f32 x, .float .f32 y] 42)
  have Bw := Lib.hid (below_step Bw.out (below_al1 w2 (.cells ([Value.float .f32 x, .float .f32 y]).toArray 42)))
  have c0 := A.out.at 0 rfl; have c1 := A.out.at 1 rfl
  go_wp2_with fail
  refine (toGuess_any m s _).mono ?_
  rintro e w3 ⟨rfl, hb⟩
  have X := Lib.hid (X.out.kept hb)
  have Bw := Lib.hid (below_step Bw.out hb)
  clear hb c0 c1
  go_wp2_with fail
  refine (IP.out _).mono ?_
  rintro e w4 ⟨x', y', hx, hy, rfl, hb⟩
  have X2 := Lib.hid (hx.trans X1.out.symm)
  have Y2 := Lib.hid (hy.trans Y1.out.symm)
  have X := Lib.hid (X.out.kept hb)
  have Bw := Lib.hid (below_step Bw.out hb)
  clear hb hx hy
  have X := Lib.hid (X.out.al (.cells ([Value.float .f32 x', .float .f32 y']).toArray 42))
  have Z := Lib.hid (Cells.made w4 [Value.float .f32 x', .float .f32 y'] 42)
  have Bw := Lib.hid (below_step Bw.out (below_al1 w4 (.cells ([Value.float .f32 x', .float .f32 y']).toArray 42)))
  have c0 := X.out.at 0 rfl; have c1 := X.out.at 1 rfl
  have d0 := Z.out.at 0 rfl; have d1 := Z.out.at 1 rfl
  go_wp2_with fail
  refine (eqGuess_any x' y' x y X2.out Y2.out _).mono ?_
  rintro e w5 ⟨rfl, hb⟩
  have Bw := Lib.hid (below_step Bw.out hb)
  clear hb
  go_wp2
  go_ret
  exact Tru.below Bw.out

def mtA (m s t u : Nat) : Nat := (fop .add .f32 m (fop .mul .f32 (fop .quo .f32 s (fop .add .f32 s u)) (fop .sub .f32 t m)))
def mtC (m s t u : Nat) : Nat := (fop .mul .f32 s (fop .sub .f32 1065353216 (fop .quo .f32 s (fop .add .f32 s u))))
theorem mtA_of {m s t u r0 r1 r2 r3 r4 : Nat} (f0 : FR .add .f32 s u r0) (f1 : FR .quo .f32 s r0 r1) (f2 : FR .sub .f32 t m r2) (f3 : FR .mul .f32 r1 r2 r3) (f4 : FR .add .f32 m r3 r4) : cn .f32 r4 = mtA m s t u := by
  unfold mtA
  simp only [f0.1, f1.1, f2.1, f3.1, f4.1, fopl', fopr']
theorem mtC_of {m s t u r0 r1 r5 r6 : Nat} (f0 : FR .add .f32 s u r0) (f1 : FR .quo .f32 s r0 r1) (f5 : FR .sub .f32 1065353216 r1 r5) (f6 : FR .mul .f32 s r5 r6) : cn .f32 r6 = mtC m s t u := by
  unfold mtC
  simp only [f0.1, f1.1, f5.1, f6.1, fopl', fopr']
def mtG (m s t u : Nat) : Bool := gsv m s && fin .f32 t && pos u
def mtO (m s t u : Nat) : Bool := mtG m s t u && gsv (mtA m s t u) (mtC m s t u)
theorem mt_no {m s t u : Nat} {w w' : World} (e : mtG m s t u = false) (hb : Below w.heap.size w w') : GsB (bif mtO m s t u then mtA m s t u else 0) (bif mtO m s t u then mtC m s t u else 0) (mtO m s t u) w (.returned (.tuple #[.agg #[.float .f32 0, .float .f32 0], .bool false])) w' := by
  have : mtO m s t u = false := by unfold mtO; rw [e]; rfl
  rw [this]; exact ⟨0, 0, rfl, rfl, rfl, hb⟩
theorem mt_yes {m s t u x y p q : Nat} {w w' : World} (e : mtG m s t u = true) (hx : cn .f32 x = mtA m s t u) (hy : cn .f32 y = mtC m s t u) (hc : p = (bif gsv x y then x else 0)) (hd : q = (bif gsv x y then y else 0)) (hb : Below w.heap.size w w') : GsB (bif mtO m s t u then mtA m s t u else 0) (bif mtO m s t u then mtC m s t u else 0) (mtO m s t u) w (.returned (.tuple #[.agg #[.float .f32 p, .float .f32 q], .bool (gsv x y)])) w' := by
  have : mtO m s t u = gsv (mtA m s t u) (mtC m s t u) := by unfold mtO; rw [e]; rfl
  obtain ⟨h1, h2, h3⟩ := gs_end hx hy hc hd
  rw [this, h3]; exact ⟨p, q, h1, h2, rfl, hb⟩

set_option maxHeartbeats 800000 in
theorem specMeet_any (m s t u : Nat) (w : World) : Calls Try.prog 70 #[.agg #[.float .f32 m, .float .f32 s], .float .f32 t, .float .f32 u] w fun e w' => ∃ x y, cn .f32 x = mtA m s t u ∧ cn .f32 y = mtC m s t u ∧ e = .returned (.agg #[.float .f32 x, .float .f32 y]) ∧ Below w.heap.size w w' := by
  go_enter Try.func70, Try.ntmps70
  go_wp2_with (refine wpList_farith rfl _ _ _ _ _ rfl rfl _ _ _ rfl rfl ?_; intro r0 j0 g0; have f0 := Lib.hid g0; clear g0; refine Stop.go ?_)
  refine Stop.mk ?_
  go_wp2_with (refine wpList_farith rfl _ _ _ _ _ rfl rfl _ _ _ rfl rfl ?_; intro r1 j1 g1; have f1 := Lib.hid g1; clear g1; refine Stop.go ?_)
  refine Stop.mk ?_
  go_wp2_with (refine wpList_farith rfl _ _ _ _ _ rfl rfl _ _ _ rfl rfl ?_; intro r2 j2 g2; have f2 := Lib.hid g2; clear g2; refine Stop.go ?_)
  refine Stop.mk ?_
  go_wp2_with (refine wpList_farith rfl _ _ _ _ _ rfl rfl _ _ _ rfl rfl ?_; intro r3 j3 g3; have f3 := Lib.hid g3; clear g3; refine Stop.go ?_)
  refine Stop.mk ?_
  go_wp2_with (refine wpList_farith rfl _ _ _ _ _ rfl rfl _ _ _ rfl rfl ?_; intro r4 j4 g4; have f4 := Lib.hid g4; clear g4; refine Stop.go ?_)
  refine Stop.mk ?_
  go_wp2_with (refine wpList_farith rfl _ _ _ _ _ rfl rfl _ _ _ rfl rfl ?_; intro r5 j5 g5; have f5 := Lib.hid g5; clear g5; refine Stop.go ?_)
  refine Stop.mk ?_
  go_wp2_with (refine wpList_farith rfl _ _ _ _ _ rfl rfl _ _ _ rfl rfl ?_; intro r6 j6 g6; have f6 := Lib.hid g6; clear g6; refine Stop.go ?_)
  refine Stop.mk ?_
  go_wp2
  refine bodyPost_ret (v := .agg #[.float .f32 r4, .float .f32 r6]) ?_ rfl ?_
  · rw [results_cell1 rfl]
    go_simp
  · exact ⟨r4, r6, mtA_of f0.out f1.out f2.out f3.out f4.out, mtC_of f0.out f1.out f5.out f6.out, rfl, (by repeat (first | (with_reducible refine Below.setCell ?_ (by first | exact Nat.le_refl _ | (simp; done) | (simp; omega) | omega) _) | (with_reducible refine below_drewN ?_ _) | (with_reducible refine Below.drew ?_) | (with_reducible exact Bw.out) | (with_reducible exact Bp.out) | (with_reducible exact Below.refl _ _) | (with_reducible refine Below.alloc ?_ (by first | exact Nat.le_refl _ | (simp; done) | (simp; omega) | omega) _)))⟩
  
set_option maxRecDepth 20000 in
set_option maxHeartbeats 1600000 in
theorem specMt_any (m s t u : Nat) (w : World) : Calls Try.prog 36 #[.agg #[.float .f32 m, .float .f32 s], .float .f32 t, .float .f32 u] w (GsB (bif mtO m s t u then mtA m s t u else 0) (bif mtO m s t u then mtC m s t u else 0) (mtO m s t u) w) := by
  have A := Lib.hid ((Cells.made w [Value.float .f32 m, .float .f32 s] 42).al (.cells ([Value.float .f32 0, .float .f32 0]).toArray 42))
  have X := Cells.made (w.alloc (.cells ([Value.float .f32 m, .float .f32 s]).toArray 42)) [Value.float .f32 0, .float .f32 0] 42
  rw [show (w.alloc (.cells ([Value.float .f32 m, .float .f32 s]).toArray 42)).heap.size = w.heap.size + 1 from by simp] at X
  have X := Lib.hid X
  have Bw := Lib.hid (below_al2 w (.cells ([Value.float .f32 m, .float .f32 s]).toArray 42) (.cells ([Value.float .f32 0, .float .f32 0]).toArray 42))
  have Bp := Lib.hid Bw.out
  have FN := Lib.hid (fun (e : mtG m s t u = false) w1 (hb : Below w.heap.size w w1) => @mt_no m s t u w w1 e hb)
  have FY := Lib.hid (fun (e : mtG m s t u = true) x y p q w1 hx hy hc hd (hb : Below w.heap.size w w1) => @mt_yes m s t u x y p q w w1 e hx hy hc hd hb)
  have AO := Lib.hid (fun r0 r1 r2 r3 r4 f0 f1 f2 f3 f4 => @mtA_of m s t u r0 r1 r2 r3 r4 f0 f1 f2 f3 f4)
  have CO := Lib.hid (fun r0 r1 r5 r6 f0 f1 f5 f6 => @mtC_of m s t u r0 r1 r5 r6 f0 f1 f5 f6)
  generalize (bif mtO m s t u then mtA m s t u else 0) = U at *
  generalize (bif mtO m s t u then mtC m s t u else 0) = V at *
  generalize (mtO m s t u) = O at *
  cases B0 : gsv m s
  · skip
    have E := Lib.hid (show mtG m s t u = false by unfold mtG; simp [B0])
    have H0 := Lib.hid B0
    clear B0 FY AO CO
    go_enter Try.func36, Try.ntmps36
    go_wp2_with fail
    refine (specGs_any m s _ _ A.out).mono ?_
    rw [H0.out]
    rintro e w' ⟨rfl, ng, rfl⟩
    have Bw := Lib.hid (below_drewN Bw.out ng)
    have c0 := A.out.at 0 rfl
    have c1 := A.out.at 1 rfl
    have d0 := X.out.at 0 rfl
    have d1 := X.out.at 1 rfl
    have e0 := X.out.fz 0
    have e1 := X.out.fz 1
    go_wp2
    refine bodyPost_ret (v := .tuple #[.agg #[.float .f32 0, .float .f32 0], .bool false]) ?_ rfl ?_
    · rw [results_cell_tmp rfl]
      go_simp
    · exact FN.out E.out _ (by repeat (first | (with_reducible refine Below.setCell ?_ (by first | exact Nat.le_refl _ | (simp; done) | (simp; omega) | omega) _) | (with_reducible refine below_drewN ?_ _) | (with_reducible refine Below.drew ?_) | (with_reducible exact Bw.out) | (with_reducible exact Bp.out) | (with_reducible exact Below.refl _ _) | (with_reducible refine Below.alloc ?_ (by first | exact Nat.le_refl _ | (simp; done) | (simp; omega) | omega) _)))
  · skip
    cases B1 : fin .f32 t
    · skip
      have E := Lib.hid (show mtG m s t u = false by unfold mtG; simp [B0, B1])
      have H0 := Lib.hid B0
      have H1 := Lib.hid B1
      clear B0 B1 FY AO CO
      go_enter Try.func36, Try.ntmps36
      go_wp2_with fail
      refine (specGs_any m s _ _ A.out).mono ?_
      rw [H0.out]
      rintro e w' ⟨rfl, ng, rfl⟩
      have Bw := Lib.hid (below_drewN Bw.out ng)
      have c0 := A.out.at 0 rfl
      have c1 := A.out.at 1 rfl
      have d0 := X.out.at 0 rfl
      have d1 := X.out.at 1 rfl
      have e0 := X.out.fz 0
      have e1 := X.out.fz 1
      go_wp2_with fail
      refine (specFinite_any t _).mono ?_
      rw [H1.out]
      rintro e w' ⟨rfl, na, rfl⟩
      have Bw := Lib.hid (below_drewN Bw.out na)
      go_wp2
      refine bodyPost_ret (v := .tuple #[.agg #[.float .f32 0, .float .f32 0], .bool false]) ?_ rfl ?_
      · rw [results_cell_tmp rfl]
        go_simp
      · exact FN.out E.out _ (by repeat (first | (with_reducible refine Below.setCell ?_ (by first | exact Nat.le_refl _ | (simp; done) | (simp; omega) | omega) _) | (with_reducible refine below_drewN ?_ _) | (with_reducible refine Below.drew ?_) | (with_reducible exact Bw.out) | (with_reducible exact Bp.out) | (with_reducible exact Below.refl _ _) | (with_reducible refine Below.alloc ?_ (by first | exact Nat.le_refl _ | (simp; done) | (simp; omega) | omega) _)))
    · skip
      cases B2 : pos u
      · skip
        have E := Lib.hid (show mtG m s t u = false by unfold mtG; simp [B0, B1, B2])
        have H0 := Lib.hid B0
        have H1 := Lib.hid B1
        have H2 := Lib.hid B2
        clear B0 B1 B2 FY AO CO
        go_enter Try.func36, Try.ntmps36
        go_wp2_with fail
        refine (specGs_any m s _ _ A.out).mono ?_
        rw [H0.out]
        rintro e w' ⟨rfl, ng, rfl⟩
        have Bw := Lib.hid (below_drewN Bw.out ng)
        have c0 := A.out.at 0 rfl
        have c1 := A.out.at 1 rfl
        have d0 := X.out.at 0 rfl
        have d1 := X.out.at 1 rfl
        have e0 := X.out.fz 0
        have e1 := X.out.fz 1
        go_wp2_with fail
        refine (specFinite_any t _).mono ?_
        rw [H1.out]
        rintro e w' ⟨rfl, na, rfl⟩
        have Bw := Lib.hid (below_drewN Bw.out na)
        go_wp2_with fail
        refine (specAbove_any u _).mono ?_
        rw [H2.out]
        rintro e w' ⟨rfl, nb, rfl⟩
        have Bw := Lib.hid (below_drewN Bw.out nb)
        go_wp2
        refine bodyPost_ret (v := .tuple #[.agg #[.float .f32 0, .float .f32 0], .bool false]) ?_ rfl ?_
        · rw [results_cell_tmp rfl]
          go_simp
        · exact FN.out E.out _ (by repeat (first | (with_reducible refine Below.setCell ?_ (by first | exact Nat.le_refl _ | (simp; done) | (simp; omega) | omega) _) | (with_reducible refine below_drewN ?_ _) | (with_reducible refine Below.drew ?_) | (with_reducible exact Bw.out) | (with_reducible exact Bp.out) | (with_reducible exact Below.refl _ _) | (with_reducible refine Below.alloc ?_ (by first | exact Nat.le_refl _ | (simp; done) | (simp; omega) | omega) _)))
      · skip
        have E := Lib.hid (show mtG m s t u = true by unfold mtG; simp [B0, B1, B2])
        have H0 := Lib.hid B0
        have H1 := Lib.hid B1
        have H2 := Lib.hid B2
        clear B0 B1 B2 FN
        go_enter Try.func36, Try.ntmps36
        go_wp2_with fail
        refine (specGs_any m s _ _ A.out).mono ?_
        rw [H0.out]
        rintro e w' ⟨rfl, ng, rfl⟩
        have Bw := Lib.hid (below_drewN Bw.out ng)
        have c0 := A.out.at 0 rfl
        have c1 := A.out.at 1 rfl
        have d0 := X.out.at 0 rfl
        have d1 := X.out.at 1 rfl
        have e0 := X.out.fz 0
        have e1 := X.out.fz 1
        go_wp2_with fail
        refine (specFinite_any t _).mono ?_
        rw [H1.out]
        rintro e w' ⟨rfl, na, rfl⟩
        have Bw := Lib.hid (below_drewN Bw.out na)
        go_wp2_with fail
        refine (specAbove_any u _).mono ?_
        rw [H2.out]
        rintro e w' ⟨rfl, nb, rfl⟩
        have Bw := Lib.hid (below_drewN Bw.out nb)
        clear AO CO
        go_wp2_with fail
        refine (specMeet_any m s t u _).mono ?_
        rintro e w5 ⟨x, y, hx, hy, rfl, hb⟩
        have HX := Lib.hid hx
        have HY := Lib.hid hy
        have X := Lib.hid (X.out.kept (by first | exact hb | exact below_undrew hb | exact below_undrew (below_undrew hb)))
        have Bw := Lib.hid (below_step Bp.out (by first | exact below_undrew hb | exact hb))
        have Bp := Lib.hid Bw.out
        clear hb c0 c1 d0 d1 e0 e1
        clear hx hy
        have d0 := X.out.at 0 rfl
        have d1 := X.out.at 1 rfl
        have c0 := d0
        have c1 := d1
        have e0 := X.out.fz 0
        have e1 := X.out.fz 1
        go_wp2_with fail
        refine (specGsGive_any x y _).mono ?_
        rintro e w6 ⟨p, q, hc, hd, rfl, hb⟩
        have HC := Lib.hid hc
        have HD := Lib.hid hd
        clear hc hd
        have X := Lib.hid (X.out.kept (by first | exact hb | exact below_undrew hb | exact below_undrew (below_undrew hb)))
        have Bw := Lib.hid (below_step Bp.out (by first | exact below_undrew hb | exact hb))
        have Bp := Lib.hid Bw.out
        clear hb c0 c1 d0 d1 e0 e1
        have d0 := X.out.at 0 rfl
        have d1 := X.out.at 1 rfl
        have e0 := X.out.fz 0
        have e1 := X.out.fz 1
        go_wp2
        refine bodyPost_ret (v := .tuple #[.agg #[.float .f32 p, .float .f32 q], .bool (gsv x y)]) ?_ rfl ?_
        · rw [results_cell_tmp rfl]
          go_simp
        · exact FY.out E.out x y p q _ HX.out HY.out HC.out HD.out (by repeat (first | (with_reducible refine Below.setCell ?_ (by first | exact Nat.le_refl _ | (simp; done) | (simp; omega) | omega) _) | (with_reducible refine below_drewN ?_ _) | (with_reducible refine Below.drew ?_) | (with_reducible exact Bw.out) | (with_reducible exact Bp.out) | (with_reducible exact Below.refl _ _) | (with_reducible refine Below.alloc ?_ (by first | exact Nat.le_refl _ | (simp; done) | (simp; omega) | omega) _)))
        
set_option maxRecDepth 20000 in
set_option maxHeartbeats 1600000 in
theorem implMt_any (m s t u : Nat) (w : World) : Calls Try.prog 37 #[.agg #[.float .f32 m, .float .f32 s], .float .f32 t, .float .f32 u] w (GsB (bif mtO m s t u then mtA m s t u else 0) (bif mtO m s t u then mtC m s t u else 0) (mtO m s t u) w) := by
  have A := Lib.hid ((Cells.made w [Value.float .f32 m, .float .f32 s] 42).al (.cells ([Value.float .f32 0, .float .f32 0]).toArray 42))
  have X := Cells.made (w.alloc (.cells ([Value.float .f32 m, .float .f32 s]).toArray 42)) [Value.float .f32 0, .float .f32 0] 42
  rw [show (w.alloc (.cells ([Value.float .f32 m, .float .f32 s]).toArray 42)).heap.size = w.heap.size + 1 from by simp] at X
  have X := Lib.hid X
  have Bw := Lib.hid (below_al2 w (.cells ([Value.float .f32 m, .float .f32 s]).toArray 42) (.cells ([Value.float .f32 0, .float .f32 0]).toArray 42))
  have Bp := Lib.hid Bw.out
  have FN := Lib.hid (fun (e : mtG m s t u = false) w1 (hb : Below w.heap.size w w1) => @mt_no m s t u w w1 e hb)
  have FY := Lib.hid (fun (e : mtG m s t u = true) x y p q w1 hx hy hc hd (hb : Below w.heap.size w w1) => @mt_yes m s t u x y p q w w1 e hx hy hc hd hb)
  have AO := Lib.hid (fun r0 r1 r2 r3 r4 f0 f1 f2 f3 f4 => @mtA_of m s t u r0 r1 r2 r3 r4 f0 f1 f2 f3 f4)
  have CO := Lib.hid (fun r0 r1 r5 r6 f0 f1 f5 f6 => @mtC_of m s t u r0 r1 r5 r6 f0 f1 f5 f6)
  generalize (bif mtO m s t u then mtA m s t u else 0) = U at *
  generalize (bif mtO m s t u then mtC m s t u else 0) = V at *
  generalize (mtO m s t u) = O at *
  cases B0 : gsv m s
  · skip
    have E := Lib.hid (show mtG m s t u = false by unfold mtG; simp [B0])
    have H0 := Lib.hid B0
    clear B0 FY AO CO
    go_enter Try.func37, Try.ntmps37
    go_wp2_with fail
    refine (implGs_any m s _).mono ?_
    rw [H0.out]
    rintro e wg0 ⟨rfl, hb⟩
    have A := Lib.hid (A.out.kept hb)
    have X := Lib.hid (X.out.kept hb)
    have Bw := Lib.hid (below_step Bw.out hb)
    have Bp := Lib.hid Bw.out
    clear hb
    have c0 := A.out.at 0 rfl
    have c1 := A.out.at 1 rfl
    have d0 := X.out.at 0 rfl
    have d1 := X.out.at 1 rfl
    have e0 := X.out.fz 0
    have e1 := X.out.fz 1
    go_wp2
    refine bodyPost_ret (v := .tuple #[.agg #[.float .f32 0, .float .f32 0], .bool false]) ?_ rfl ?_
    · rw [results_cell_tmp rfl]
      go_simp
    · exact FN.out E.out _ (by repeat (first | (with_reducible refine Below.setCell ?_ (by first | exact Nat.le_refl _ | (simp; done) | (simp; omega) | omega) _) | (with_reducible refine below_drewN ?_ _) | (with_reducible refine Below.drew ?_) | (with_reducible exact Bw.out) | (with_reducible exact Bp.out) | (with_reducible exact Below.refl _ _) | (with_reducible refine Below.alloc ?_ (by first | exact Nat.le_refl _ | (simp; done) | (simp; omega) | omega) _)))
  · skip
    cases B1 : fin .f32 t
    · skip
      have E := Lib.hid (show mtG m s t u = false by unfold mtG; simp [B0, B1])
      have H0 := Lib.hid B0
      have H1 := Lib.hid B1
      clear B0 B1 FY AO CO
      go_enter Try.func37, Try.ntmps37
      go_wp2_with fail
      refine (implGs_any m s _).mono ?_
      rw [H0.out]
      rintro e wg0 ⟨rfl, hb⟩
      have A := Lib.hid (A.out.kept hb)
      have X := Lib.hid (X.out.kept hb)
      have Bw := Lib.hid (below_step Bw.out hb)
      have Bp := Lib.hid Bw.out
      clear hb
      have c0 := A.out.at 0 rfl
      have c1 := A.out.at 1 rfl
      have d0 := X.out.at 0 rfl
      have d1 := X.out.at 1 rfl
      have e0 := X.out.fz 0
      have e1 := X.out.fz 1
      go_wp2_with fail
      refine (implFinite_any t _).mono ?_
      rw [H1.out]
      rintro e w' ⟨rfl, na, rfl⟩
      have Bw := Lib.hid (below_drewN Bw.out na)
      go_wp2
      refine bodyPost_ret (v := .tuple #[.agg #[.float .f32 0, .float .f32 0], .bool false]) ?_ rfl ?_
      · rw [results_cell_tmp rfl]
        go_simp
      · exact FN.out E.out _ (by repeat (first | (with_reducible refine Below.setCell ?_ (by first | exact Nat.le_refl _ | (simp; done) | (simp; omega) | omega) _) | (with_reducible refine below_drewN ?_ _) | (with_reducible refine Below.drew ?_) | (with_reducible exact Bw.out) | (with_reducible exact Bp.out) | (with_reducible exact Below.refl _ _) | (with_reducible refine Below.alloc ?_ (by first | exact Nat.le_refl _ | (simp; done) | (simp; omega) | omega) _)))
    · skip
      cases B2 : pos u
      · skip
        have E := Lib.hid (show mtG m s t u = false by unfold mtG; simp [B0, B1, B2])
        have H0 := Lib.hid B0
        have H1 := Lib.hid B1
        have H2 := Lib.hid B2
        clear B0 B1 B2 FY AO CO
        go_enter Try.func37, Try.ntmps37
        go_wp2_with fail
        refine (implGs_any m s _).mono ?_
        rw [H0.out]
        rintro e wg0 ⟨rfl, hb⟩
        have A := Lib.hid (A.out.kept hb)
        have X := Lib.hid (X.out.kept hb)
        have Bw := Lib.hid (below_step Bw.out hb)
        have Bp := Lib.hid Bw.out
        clear hb
        have c0 := A.out.at 0 rfl
        have c1 := A.out.at 1 rfl
        have d0 := X.out.at 0 rfl
        have d1 := X.out.at 1 rfl
        have e0 := X.out.fz 0
        have e1 := X.out.fz 1
        go_wp2_with fail
        refine (implFinite_any t _).mono ?_
        rw [H1.out]
        rintro e w' ⟨rfl, na, rfl⟩
        have Bw := Lib.hid (below_drewN Bw.out na)
        go_wp2_with fail
        refine (implPos_any u _).mono ?_
        rw [H2.out]
        rintro e w' ⟨rfl, nb, rfl⟩
        have Bw := Lib.hid (below_drewN Bw.out nb)
        go_wp2
        refine bodyPost_ret (v := .tuple #[.agg #[.float .f32 0, .float .f32 0], .bool false]) ?_ rfl ?_
        · rw [results_cell_tmp rfl]
          go_simp
        · exact FN.out E.out _ (by repeat (first | (with_reducible refine Below.setCell ?_ (by first | exact Nat.le_refl _ | (simp; done) | (simp; omega) | omega) _) | (with_reducible refine below_drewN ?_ _) | (with_reducible refine Below.drew ?_) | (with_reducible exact Bw.out) | (with_reducible exact Bp.out) | (with_reducible exact Below.refl _ _) | (with_reducible refine Below.alloc ?_ (by first | exact Nat.le_refl _ | (simp; done) | (simp; omega) | omega) _)))
      · skip
        have E := Lib.hid (show mtG m s t u = true by unfold mtG; simp [B0, B1, B2])
        have H0 := Lib.hid B0
        have H1 := Lib.hid B1
        have H2 := Lib.hid B2
        clear B0 B1 B2 FN
        go_enter Try.func37, Try.ntmps37
        go_wp2_with fail
        refine (implGs_any m s _).mono ?_
        rw [H0.out]
        rintro e wg0 ⟨rfl, hb⟩
        have A := Lib.hid (A.out.kept hb)
        have X := Lib.hid (X.out.kept hb)
        have Bw := Lib.hid (below_step Bw.out hb)
        have Bp := Lib.hid Bw.out
        clear hb
        have c0 := A.out.at 0 rfl
        have c1 := A.out.at 1 rfl
        have d0 := X.out.at 0 rfl
        have d1 := X.out.at 1 rfl
        have e0 := X.out.fz 0
        have e1 := X.out.fz 1
        go_wp2_with fail
        refine (implFinite_any t _).mono ?_
        rw [H1.out]
        rintro e w' ⟨rfl, na, rfl⟩
        have Bw := Lib.hid (below_drewN Bw.out na)
        go_wp2_with fail
        refine (implPos_any u _).mono ?_
        rw [H2.out]
        rintro e w' ⟨rfl, nb, rfl⟩
        have Bw := Lib.hid (below_drewN Bw.out nb)
        go_wp2_with (refine wpList_farith rfl _ _ _ _ _ rfl rfl _ _ _ rfl rfl ?_; intro r0 j0 g0; have f0 := Lib.hid g0; clear g0; refine Stop.go ?_)
        refine Stop.mk ?_
        go_wp2_with (refine wpList_farith rfl _ _ _ _ _ rfl rfl _ _ _ rfl rfl ?_; intro r1 j1 g1; have f1 := Lib.hid g1; clear g1; refine Stop.go ?_)
        refine Stop.mk ?_
        go_wp2_with (refine wpList_farith rfl _ _ _ _ _ rfl rfl _ _ _ rfl rfl ?_; intro r2 j2 g2; have f2 := Lib.hid g2; clear g2; refine Stop.go ?_)
        refine Stop.mk ?_
        go_wp2_with (refine wpList_farith rfl _ _ _ _ _ rfl rfl _ _ _ rfl rfl ?_; intro r3 j3 g3; have f3 := Lib.hid g3; clear g3; refine Stop.go ?_)
        refine Stop.mk ?_
        go_wp2_with (refine wpList_farith rfl _ _ _ _ _ rfl rfl _ _ _ rfl rfl ?_; intro r4 j4 g4; have f4 := Lib.hid g4; clear g4; refine Stop.go ?_)
        refine Stop.mk ?_
        go_wp2_with (refine wpList_farith rfl _ _ _ _ _ rfl rfl _ _ _ rfl rfl ?_; intro r5 j5 g5; have f5 := Lib.hid g5; clear g5; refine Stop.go ?_)
        refine Stop.mk ?_
        go_wp2_with (refine wpList_farith rfl _ _ _ _ _ rfl rfl _ _ _ rfl rfl ?_; intro r6 j6 g6; have f6 := Lib.hid g6; clear g6; refine Stop.go ?_)
        refine Stop.mk ?_
        have HX := Lib.hid (AO.out _ _ _ _ _ f0.out f1.out f2.out f3.out f4.out)
        have HY := Lib.hid (CO.out _ _ _ _ f0.out f1.out f5.out f6.out)
        clear f0 f1 f2 f3 f4 f5 f6 AO CO
        go_wp2_with fail
        refine (implGsGive_any r4 r6 _).mono ?_
        rintro e w6 ⟨p, q, hc, hd, rfl, hb⟩
        have HC := Lib.hid hc
        have HD := Lib.hid hd
        clear hc hd
        have X := Lib.hid (X.out.kept (by first | exact hb | exact below_undrew hb | exact below_undrew (below_undrew hb)))
        have Bw := Lib.hid (below_step Bp.out (by first | exact below_undrew hb | exact hb))
        have Bp := Lib.hid Bw.out
        clear hb c0 c1 d0 d1 e0 e1
        have d0 := X.out.at 0 rfl
        have d1 := X.out.at 1 rfl
        have e0 := X.out.fz 0
        have e1 := X.out.fz 1
        go_wp2
        refine bodyPost_ret (v := .tuple #[.agg #[.float .f32 p, .float .f32 q], .bool (gsv r4 r6)]) ?_ rfl ?_
        · rw [results_cell_tmp rfl]
          go_simp
        · exact FY.out E.out r4 r6 p q _ HX.out HY.out HC.out HD.out (by repeat (first | (with_reducible refine Below.setCell ?_ (by first | exact Nat.le_refl _ | (simp; done) | (simp; omega) | omega) _) | (with_reducible refine below_drewN ?_ _) | (with_reducible refine Below.drew ?_) | (with_reducible exact Bw.out) | (with_reducible exact Bp.out) | (with_reducible exact Below.refl _ _) | (with_reducible refine Below.alloc ?_ (by first | exact Nat.le_refl _ | (simp; done) | (simp; omega) | omega) _)))
        
set_option maxRecDepth 20000 in
set_option maxHeartbeats 1600000 in
theorem fnExactMeetGuess_walk (m s t u : Nat) (w : World) (_ : (Lit.float .f32 t).wf = true) (_ : (Lit.float .f32 u).wf = true) : Calls Try.prog 11 #[.agg #[.float .f32 m, .float .f32 s], .float .f32 t, .float .f32 u] w (Tru w) := by
  have A := Lib.hid (Cells.made w [.float .f32 m, .float .f32 s] 41)
  have Bw := Lib.hid (below_al1 w (.cells #[.float .f32 m, .float .f32 s] 41))
  have SP := Lib.hid (specMt_any m s t u)
  have IP := Lib.hid (implMt_any m s t u)
  unfold GsB at SP IP
  generalize (bif mtO m s t u then mtA m s t u else 0) = U at *
  generalize (bif mtO m s t u then mtC m s t u else 0) = V at *
  generalize (mtO m s t u) = O at *
  go_enter Try.func11, Try.ntmps11
  go_wp2_with fail
  refine (toGuess_any m s _).mono ?_
  rintro e w1 ⟨rfl, hb⟩
  have A := Lib.hid (A.out.kept hb)
  have Bw := Lib.hid (below_step Bw.out hb)
  clear hb
  go_wp2_with fail
  refine (SP.out _).mono ?_
  rintro e w2 ⟨x, y, hx, hy, rfl, hb⟩
  have X1 := Lib.hid hx
  have Y1 := Lib.hid hy
  have A := Lib.hid (A.out.kept hb)
  have Bw := Lib.hid (below_step Bw.out hb)
  clear hb hx hy
  have A := Lib.hid (A.out.al (.cells ([Value.float .f32 x, .float .f32 y]).toArray 42))
  have X := Lib.hid (Cells.made w2 [Value.float .f32 x, .float .f32 y] 42)
  have Bw := Lib.hid (below_step Bw.out (below_al1 w2 (.cells ([Value.float .f32 x, .float .f32 y]).toArray 42)))
  have c0 := A.out.at 0 rfl; have c1 := A.out.at 1 rfl
  go_wp2_with fail
  refine (toGuess_any m s _).mono ?_
  rintro e w3 ⟨rfl, hb⟩
  have X := Lib.hid (X.out.kept hb)
  have Bw := Lib.hid (below_step Bw.out hb)
  clear hb c0 c1
  go_wp2_with fail
  refine (IP.out _).mono ?_
  rintro e w4 ⟨x', y', hx, hy, rfl, hb⟩
  have X2 := Lib.hid (hx.trans X1.out.symm)
  have Y2 := Lib.hid (hy.trans Y1.out.symm)
  have X := Lib.hid (X.out.kept hb)
  have Bw := Lib.hid (below_step Bw.out hb)
  clear hb hx hy
  have X := Lib.hid (X.out.al (.cells ([Value.float .f32 x', .float .f32 y']).toArray 42))
  have Z := Lib.hid (Cells.made w4 [Value.float .f32 x', .float .f32 y'] 42)
  have Bw := Lib.hid (below_step Bw.out (below_al1 w4 (.cells ([Value.float .f32 x', .float .f32 y']).toArray 42)))
  have c0 := X.out.at 0 rfl; have c1 := X.out.at 1 rfl
  have d0 := Z.out.at 0 rfl; have d1 := Z.out.at 1 rfl
  go_wp2_with fail
  refine (eqGuess_any x' y' x y X2.out Y2.out _).mono ?_
  rintro e w5 ⟨rfl, hb⟩
  have Bw := Lib.hid (below_step Bw.out hb)
  clear hb
  go_wp2
  go_ret
  exact Tru.below Bw.out

end Go.Proofs.Ytdemahghjgghkaa
