/- Heaters that are told how warm it is: both sides, and the law. -/
import Derived.Test.YtjkokhdbkmjenaaHtr
import Derived.Test.YtjkokhdbkmjenaaFu
import Derived.OwnWalk
namespace Go.Proofs.Ytjkokhdbkmjenaa
open Go Go.RowKit
set_option linter.unusedVariables false

theorem results_cell_tmp2 {fn : Func} {p u u' : Tmp} {ty : TypeId} (h : fn.results = #[.cell p ty, .tmp u, .tmp u']) (tmps : Array Value) (P : Program) (w : World) :
    (results fn tmps).run P w =
      ((asAddr (tmps.getD p undef)).run P w).andThen fun a w₁ => ((loadVar ty a).run P w₁).andThen fun v w₂ => .ok (.tuple #[v, tmps.getD u undef, tmps.getD u' undef]) w₂ := by
  simp only [results, h]
  simp [Sem.run_bind, Result.andThen]

def gtM (x y : Nat) : Bool := FloatKind.f32.format.order x y == some .gt
/-- whether a heater is on behind it -/
def onT (lo hi m : Nat) (on : Bool) : Bool := bif gtM m hi then false else bif ltN m lo then true else on
theorem nn_fin {x : Nat} (h : fin .f32 x = true) : nn .f32 x = false := by
  cases hn : nn .f32 x with
  | false => rfl
  | true => rw [fin_nan hn] at h; cases h
theorem lt_not_gt {lo hi m : Nat} (h1 : fin .f32 lo = true) (h2 : fin .f32 hi = true) (h3 : fin .f32 m = true) (h : ltN lo hi = true) (hm : ltN m lo = true) : gtM m hi = false := by
  unfold ltN at h hm
  unfold gtM
  rw [ord_key, nn_fin h1, nn_fin h2] at h
  rw [ord_key, nn_fin h3, nn_fin h1] at hm
  rw [ord_key, nn_fin h3, nn_fin h2]
  simp only [Bool.or_self, Bool.false_eq_true, if_false, beq_iff_eq, Option.some.injEq, compare, compareOfLessAndEq] at h hm ⊢
  generalize key FloatKind.f32.format lo = a at *
  generalize key FloatKind.f32.format hi = b at *
  generalize key FloatKind.f32.format m = c at *
  have h4 : a < b := by
    by_cases g : a < b
    · exact g
    · rw [if_neg g] at h; split at h <;> cases h
  have h5 : c < a := by
    by_cases g : c < a
    · exact g
    · rw [if_neg g] at hm; split at hm <;> cases hm
  rw [if_pos (by omega)]
  rfl
def trnB (s : HT) (m : Nat) : Bool := vHtr s && fin .f32 m
def HT.z : HT := ⟨0, 0, 0, 0, false⟩
def trnR (s : HT) (m : Nat) : HT := bif trnB s m then { s with on := onT s.lo s.hi m s.on } else HT.z
def trnP (s : HT) (m : Nat) : Nat := bif trnB s m then (bif onT s.lo s.hi m s.on then s.pw else 0) else 0
abbrev HT.ag (s : HT) : Value := .agg #[.int .i64 s.rm, .float .f32 s.pw, .float .f32 s.lo, .float .f32 s.hi, .bool s.on]
def TrnB (s : HT) (m : Nat) (w : World) (e : Ending) (w' : World) : Prop := e = .returned (.tuple #[(trnR s m).ag, .float .f32 (trnP s m), .bool (trnB s m)]) ∧ Below w.heap.size w w'
theorem TrnB.no {s : HT} {m : Nat} {w w' : World} (h : trnB s m = false) (hb : Below w.heap.size w w') : TrnB s m w (.returned (.tuple #[.agg #[.int .i64 0, .float .f32 0, .float .f32 0, .float .f32 0, .bool false], .float .f32 0, .bool false])) w' := by
  unfold TrnB trnR trnP; rw [h]; exact ⟨rfl, hb⟩
theorem TrnB.yes {s : HT} {m : Nat} {o : Bool} {w w' : World} (h : trnB s m = true) (ho : onT s.lo s.hi m s.on = o) (hb : Below w.heap.size w w') : TrnB s m w (.returned (.tuple #[.agg #[.int .i64 s.rm, .float .f32 s.pw, .float .f32 s.lo, .float .f32 s.hi, .bool o], .float .f32 (bif o then s.pw else 0), .bool true])) w' := by
  unfold TrnB trnR trnP; rw [h, ho]; exact ⟨rfl, hb⟩

set_option maxHeartbeats 800000 in
theorem specTurnH_false (rm : Int) (pw lo hi m : Nat) (w : World) : Calls Try.prog 18 #[.agg #[.int .i64 rm, .float .f32 pw, .float .f32 lo, .float .f32 hi, .bool false], .float .f32 m] w (TrnB (⟨rm, pw, lo, hi, false⟩ : HT) m w) := by
  have A := Lib.hid ((Cells.made w [Value.int .i64 rm, .float .f32 pw, .float .f32 lo, .float .f32 hi, .bool false] 26).al (.cells ([Value.int .i64 0, .float .f32 0, .float .f32 0, .float .f32 0, .bool false]).toArray 26))
  have X := Cells.made (w.alloc (.cells ([Value.int .i64 rm, .float .f32 pw, .float .f32 lo, .float .f32 hi, .bool false]).toArray 26)) [Value.int .i64 0, .float .f32 0, .float .f32 0, .float .f32 0, .bool false] 26
  rw [show (w.alloc (.cells ([Value.int .i64 rm, .float .f32 pw, .float .f32 lo, .float .f32 hi, .bool false]).toArray 26)).heap.size = w.heap.size + 1 from by simp] at X
  have X := Lib.hid X
  have Bw := Lib.hid (below_al2 w (.cells ([Value.int .i64 rm, .float .f32 pw, .float .f32 lo, .float .f32 hi, .bool false]).toArray 26) (.cells ([Value.int .i64 0, .float .f32 0, .float .f32 0, .float .f32 0, .bool false]).toArray 26))
  have FN := Lib.hid (fun w1 w2 hb => @TrnB.no (⟨rm, pw, lo, hi, false⟩ : HT) m w1 w2 hb)
  have FY := Lib.hid (fun o w1 w2 h ho hb => @TrnB.yes (⟨rm, pw, lo, hi, false⟩ : HT) m o w1 w2 h ho hb)
  have LG := Lib.hid (fun h1 h2 h3 h h4 => @lt_not_gt lo hi m h1 h2 h3 h h4)
  have VE := Lib.hid (show vHtr (⟨rm, pw, lo, hi, false⟩ : HT) = true → fin .f32 lo = true ∧ fin .f32 hi = true ∧ ltN lo hi = true from fun h => by unfold vHtr at h; simp only [Bool.and_eq_true] at h; exact ⟨h.1.1.2, h.1.2, h.2⟩)
  have EB := Lib.hid (show ∀ b, vHtr (⟨rm, pw, lo, hi, false⟩ : HT) = b → trnB (⟨rm, pw, lo, hi, false⟩ : HT) m = (b && fin .f32 m) from fun b h => by unfold trnB; rw [h])
  have EO := Lib.hid (show onT lo hi m false = (bif gtM m hi then false else bif ltN m lo then true else false) from rfl)
  have SP := Lib.hid (fun w1 b A => specHeater_any (⟨rm, pw, lo, hi, false⟩ : HT) b w1 A)
  generalize hv : vHtr (⟨rm, pw, lo, hi, false⟩ : HT) = v at *
  cases v
  · skip
    have E := Lib.hid (EB.out _ rfl)
    clear VE EB hv
    go_enter Try.func18, Try.ntmps18
    go_wp2_with fail
    refine (SP.out _ _ A.out).mono ?_
    rintro e w' ⟨rfl, n, rfl⟩
    go_wp2
    refine bodyPost_ret (v := .tuple #[.agg #[.int .i64 0, .float .f32 0, .float .f32 0, .float .f32 0, .bool false], .float .f32 0, .bool false]) ?_ rfl ?_
    · rw [results_cell_tmp2 rfl]
      go_simp
    · exact FN.out _ _ E.out (by repeat (first | (with_reducible refine Below.setCell ?_ (by first | exact Nat.le_refl _ | (simp; done) | (simp; omega) | omega) _) | (with_reducible refine below_drewN ?_ _) | (with_reducible refine Below.drew ?_) | (with_reducible exact Bw.out) | (with_reducible exact Below.refl _ _) | (with_reducible refine Below.alloc ?_ (by first | exact Nat.le_refl _ | (simp; done) | (simp; omega) | omega) _)))
  · skip
    cases B1 : fin .f32 m
    · skip
      have E := Lib.hid ((EB.out _ rfl).trans (by rw [B1]))
      have H1 := Lib.hid B1
      clear B1 VE EB hv
      go_enter Try.func18, Try.ntmps18
      go_wp2_with fail
      refine (SP.out _ _ A.out).mono ?_
      rintro e w' ⟨rfl, n, rfl⟩
      go_wp2_with fail
      refine (specFinite_any m _).mono ?_
      rw [H1.out]
      rintro e w' ⟨rfl, n2, rfl⟩
      go_wp2
      refine bodyPost_ret (v := .tuple #[.agg #[.int .i64 0, .float .f32 0, .float .f32 0, .float .f32 0, .bool false], .float .f32 0, .bool false]) ?_ rfl ?_
      · rw [results_cell_tmp2 rfl]
        go_simp
      · exact FN.out _ _ E.out (by repeat (first | (with_reducible refine Below.setCell ?_ (by first | exact Nat.le_refl _ | (simp; done) | (simp; omega) | omega) _) | (with_reducible refine below_drewN ?_ _) | (with_reducible refine Below.drew ?_) | (with_reducible exact Bw.out) | (with_reducible exact Below.refl _ _) | (with_reducible refine Below.alloc ?_ (by first | exact Nat.le_refl _ | (simp; done) | (simp; omega) | omega) _)))
    · skip
      have E := Lib.hid ((EB.out _ rfl).trans (by rw [B1]))
      obtain ⟨v1, v2, v3⟩ := VE.out rfl
      have H1 := Lib.hid B1
      clear VE EB hv
      cases B2 : ltN m lo
      · skip
        cases B3 : gtM m hi
        · skip
          have EO := Lib.hid (EO.out.trans (by rw [B2, B3] <;> rfl : _ = false))
          have o2 : (FloatKind.f32.format.order m lo == some .lt) = false := B2
          have o3 : (FloatKind.f32.format.order m hi == some .gt) = false := B3
          clear B1 B2 B3 v1 v2 v3 LG
          go_enter Try.func18, Try.ntmps18
          go_wp2_with fail
          refine (SP.out _ _ A.out).mono ?_
          rintro e w' ⟨rfl, n, rfl⟩
          go_wp2_with fail
          refine (specFinite_any m _).mono ?_
          rw [H1.out]
          rintro e w' ⟨rfl, n2, rfl⟩
          go_wp2_with go_in
          all_goals refine bodyPost_ret (v := .tuple #[.agg #[.int .i64 rm, .float .f32 pw, .float .f32 lo, .float .f32 hi, .bool false], .float .f32 0, .bool true]) ?_ rfl ?_
          all_goals first | (rw [results_cell_tmp2 rfl]; go_simp; done) | exact FY.out false _ _ E.out EO.out (by repeat (first | (with_reducible refine Below.setCell ?_ (by first | exact Nat.le_refl _ | (simp; done) | (simp; omega) | omega) _) | (with_reducible refine below_drewN ?_ _) | (with_reducible refine Below.drew ?_) | (with_reducible exact Bw.out) | (with_reducible exact Below.refl _ _) | (with_reducible refine Below.alloc ?_ (by first | exact Nat.le_refl _ | (simp; done) | (simp; omega) | omega) _)))
        · skip
          have EO := Lib.hid (EO.out.trans (by rw [B2, B3] <;> rfl : _ = false))
          have o2 : (FloatKind.f32.format.order m lo == some .lt) = false := B2
          have o3 : (FloatKind.f32.format.order m hi == some .gt) = true := B3
          clear B1 B2 B3 v1 v2 v3 LG
          go_enter Try.func18, Try.ntmps18
          go_wp2_with fail
          refine (SP.out _ _ A.out).mono ?_
          rintro e w' ⟨rfl, n, rfl⟩
          go_wp2_with fail
          refine (specFinite_any m _).mono ?_
          rw [H1.out]
          rintro e w' ⟨rfl, n2, rfl⟩
          go_wp2_with go_in
          all_goals refine bodyPost_ret (v := .tuple #[.agg #[.int .i64 rm, .float .f32 pw, .float .f32 lo, .float .f32 hi, .bool false], .float .f32 0, .bool true]) ?_ rfl ?_
          all_goals first | (rw [results_cell_tmp2 rfl]; go_simp; done) | exact FY.out false _ _ E.out EO.out (by repeat (first | (with_reducible refine Below.setCell ?_ (by first | exact Nat.le_refl _ | (simp; done) | (simp; omega) | omega) _) | (with_reducible refine below_drewN ?_ _) | (with_reducible refine Below.drew ?_) | (with_reducible exact Bw.out) | (with_reducible exact Below.refl _ _) | (with_reducible refine Below.alloc ?_ (by first | exact Nat.le_refl _ | (simp; done) | (simp; omega) | omega) _)))
      · skip
        have B3 := LG.out v1 v2 B1 v3 B2
        have EO := Lib.hid (EO.out.trans (by rw [B2, B3] <;> rfl : _ = true))
        have o2 : (FloatKind.f32.format.order m lo == some .lt) = true := B2
        have o3 : (FloatKind.f32.format.order m hi == some .gt) = false := B3
        clear B1 B2 B3 v1 v2 v3 LG
        go_enter Try.func18, Try.ntmps18
        go_wp2_with fail
        refine (SP.out _ _ A.out).mono ?_
        rintro e w' ⟨rfl, n, rfl⟩
        go_wp2_with fail
        refine (specFinite_any m _).mono ?_
        rw [H1.out]
        rintro e w' ⟨rfl, n2, rfl⟩
        go_wp2_with go_in
        all_goals refine bodyPost_ret (v := .tuple #[.agg #[.int .i64 rm, .float .f32 pw, .float .f32 lo, .float .f32 hi, .bool true], .float .f32 pw, .bool true]) ?_ rfl ?_
        all_goals first | (rw [results_cell_tmp2 rfl]; go_simp; done) | exact FY.out true _ _ E.out EO.out (by repeat (first | (with_reducible refine Below.setCell ?_ (by first | exact Nat.le_refl _ | (simp; done) | (simp; omega) | omega) _) | (with_reducible refine below_drewN ?_ _) | (with_reducible refine Below.drew ?_) | (with_reducible exact Bw.out) | (with_reducible exact Below.refl _ _) | (with_reducible refine Below.alloc ?_ (by first | exact Nat.le_refl _ | (simp; done) | (simp; omega) | omega) _)))

set_option maxHeartbeats 800000 in
theorem specTurnH_true (rm : Int) (pw lo hi m : Nat) (w : World) : Calls Try.prog 18 #[.agg #[.int .i64 rm, .float .f32 pw, .float .f32 lo, .float .f32 hi, .bool true], .float .f32 m] w (TrnB (⟨rm, pw, lo, hi, true⟩ : HT) m w) := by
  have A := Lib.hid ((Cells.made w [Value.int .i64 rm, .float .f32 pw, .float .f32 lo, .float .f32 hi, .bool true] 26).al (.cells ([Value.int .i64 0, .float .f32 0, .float .f32 0, .float .f32 0, .bool false]).toArray 26))
  have X := Cells.made (w.alloc (.cells ([Value.int .i64 rm, .float .f32 pw, .float .f32 lo, .float .f32 hi, .bool true]).toArray 26)) [Value.int .i64 0, .float .f32 0, .float .f32 0, .float .f32 0, .bool false] 26
  rw [show (w.alloc (.cells ([Value.int .i64 rm, .float .f32 pw, .float .f32 lo, .float .f32 hi, .bool true]).toArray 26)).heap.size = w.heap.size + 1 from by simp] at X
  have X := Lib.hid X
  have Bw := Lib.hid (below_al2 w (.cells ([Value.int .i64 rm, .float .f32 pw, .float .f32 lo, .float .f32 hi, .bool true]).toArray 26) (.cells ([Value.int .i64 0, .float .f32 0, .float .f32 0, .float .f32 0, .bool false]).toArray 26))
  have FN := Lib.hid (fun w1 w2 hb => @TrnB.no (⟨rm, pw, lo, hi, true⟩ : HT) m w1 w2 hb)
  have FY := Lib.hid (fun o w1 w2 h ho hb => @TrnB.yes (⟨rm, pw, lo, hi, true⟩ : HT) m o w1 w2 h ho hb)
  have LG := Lib.hid (fun h1 h2 h3 h h4 => @lt_not_gt lo hi m h1 h2 h3 h h4)
  have VE := Lib.hid (show vHtr (⟨rm, pw, lo, hi, true⟩ : HT) = true → fin .f32 lo = true ∧ fin .f32 hi = true ∧ ltN lo hi = true from fun h => by unfold vHtr at h; simp only [Bool.and_eq_true] at h; exact ⟨h.1.1.2, h.1.2, h.2⟩)
  have EB := Lib.hid (show ∀ b, vHtr (⟨rm, pw, lo, hi, true⟩ : HT) = b → trnB (⟨rm, pw, lo, hi, true⟩ : HT) m = (b && fin .f32 m) from fun b h => by unfold trnB; rw [h])
  have EO := Lib.hid (show onT lo hi m true = (bif gtM m hi then false else bif ltN m lo then true else true) from rfl)
  have SP := Lib.hid (fun w1 b A => specHeater_any (⟨rm, pw, lo, hi, true⟩ : HT) b w1 A)
  generalize hv : vHtr (⟨rm, pw, lo, hi, true⟩ : HT) = v at *
  cases v
  · skip
    have E := Lib.hid (EB.out _ rfl)
    clear VE EB hv
    go_enter Try.func18, Try.ntmps18
    go_wp2_with fail
    refine (SP.out _ _ A.out).mono ?_
    rintro e w' ⟨rfl, n, rfl⟩
    go_wp2
    refine bodyPost_ret (v := .tuple #[.agg #[.int .i64 0, .float .f32 0, .float .f32 0, .float .f32 0, .bool false], .float .f32 0, .bool false]) ?_ rfl ?_
    · rw [results_cell_tmp2 rfl]
      go_simp
    · exact FN.out _ _ E.out (by repeat (first | (with_reducible refine Below.setCell ?_ (by first | exact Nat.le_refl _ | (simp; done) | (simp; omega) | omega) _) | (with_reducible refine below_drewN ?_ _) | (with_reducible refine Below.drew ?_) | (with_reducible exact Bw.out) | (with_reducible exact Below.refl _ _) | (with_reducible refine Below.alloc ?_ (by first | exact Nat.le_refl _ | (simp; done) | (simp; omega) | omega) _)))
  · skip
    cases B1 : fin .f32 m
    · skip
      have E := Lib.hid ((EB.out _ rfl).trans (by rw [B1]))
      have H1 := Lib.hid B1
      clear B1 VE EB hv
      go_enter Try.func18, Try.ntmps18
      go_wp2_with fail
      refine (SP.out _ _ A.out).mono ?_
      rintro e w' ⟨rfl, n, rfl⟩
      go_wp2_with fail
      refine (specFinite_any m _).mono ?_
      rw [H1.out]
      rintro e w' ⟨rfl, n2, rfl⟩
      go_wp2
      refine bodyPost_ret (v := .tuple #[.agg #[.int .i64 0, .float .f32 0, .float .f32 0, .float .f32 0, .bool false], .float .f32 0, .bool false]) ?_ rfl ?_
      · rw [results_cell_tmp2 rfl]
        go_simp
      · exact FN.out _ _ E.out (by repeat (first | (with_reducible refine Below.setCell ?_ (by first | exact Nat.le_refl _ | (simp; done) | (simp; omega) | omega) _) | (with_reducible refine below_drewN ?_ _) | (with_reducible refine Below.drew ?_) | (with_reducible exact Bw.out) | (with_reducible exact Below.refl _ _) | (with_reducible refine Below.alloc ?_ (by first | exact Nat.le_refl _ | (simp; done) | (simp; omega) | omega) _)))
    · skip
      have E := Lib.hid ((EB.out _ rfl).trans (by rw [B1]))
      obtain ⟨v1, v2, v3⟩ := VE.out rfl
      have H1 := Lib.hid B1
      clear VE EB hv
      cases B2 : ltN m lo
      · skip
        cases B3 : gtM m hi
        · skip
          have EO := Lib.hid (EO.out.trans (by rw [B2, B3] <;> rfl : _ = true))
          have o2 : (FloatKind.f32.format.order m lo == some .lt) = false := B2
          have o3 : (FloatKind.f32.format.order m hi == some .gt) = false := B3
          clear B1 B2 B3 v1 v2 v3 LG
          go_enter Try.func18, Try.ntmps18
          go_wp2_with fail
          refine (SP.out _ _ A.out).mono ?_
          rintro e w' ⟨rfl, n, rfl⟩
          go_wp2_with fail
          refine (specFinite_any m _).mono ?_
          rw [H1.out]
          rintro e w' ⟨rfl, n2, rfl⟩
          go_wp2_with go_in
          all_goals refine bodyPost_ret (v := .tuple #[.agg #[.int .i64 rm, .float .f32 pw, .float .f32 lo, .float .f32 hi, .bool true], .float .f32 pw, .bool true]) ?_ rfl ?_
          all_goals first | (rw [results_cell_tmp2 rfl]; go_simp; done) | exact FY.out true _ _ E.out EO.out (by repeat (first | (with_reducible refine Below.setCell ?_ (by first | exact Nat.le_refl _ | (simp; done) | (simp; omega) | omega) _) | (with_reducible refine below_drewN ?_ _) | (with_reducible refine Below.drew ?_) | (with_reducible exact Bw.out) | (with_reducible exact Below.refl _ _) | (with_reducible refine Below.alloc ?_ (by first | exact Nat.le_refl _ | (simp; done) | (simp; omega) | omega) _)))
        · skip
          have EO := Lib.hid (EO.out.trans (by rw [B2, B3] <;> rfl : _ = false))
          have o2 : (FloatKind.f32.format.order m lo == some .lt) = false := B2
          have o3 : (FloatKind.f32.format.order m hi == some .gt) = true := B3
          clear B1 B2 B3 v1 v2 v3 LG
          go_enter Try.func18, Try.ntmps18
          go_wp2_with fail
          refine (SP.out _ _ A.out).mono ?_
          rintro e w' ⟨rfl, n, rfl⟩
          go_wp2_with fail
          refine (specFinite_any m _).mono ?_
          rw [H1.out]
          rintro e w' ⟨rfl, n2, rfl⟩
          go_wp2_with go_in
          all_goals refine bodyPost_ret (v := .tuple #[.agg #[.int .i64 rm, .float .f32 pw, .float .f32 lo, .float .f32 hi, .bool false], .float .f32 0, .bool true]) ?_ rfl ?_
          all_goals first | (rw [results_cell_tmp2 rfl]; go_simp; done) | exact FY.out false _ _ E.out EO.out (by repeat (first | (with_reducible refine Below.setCell ?_ (by first | exact Nat.le_refl _ | (simp; done) | (simp; omega) | omega) _) | (with_reducible refine below_drewN ?_ _) | (with_reducible refine Below.drew ?_) | (with_reducible exact Bw.out) | (with_reducible exact Below.refl _ _) | (with_reducible refine Below.alloc ?_ (by first | exact Nat.le_refl _ | (simp; done) | (simp; omega) | omega) _)))
      · skip
        have B3 := LG.out v1 v2 B1 v3 B2
        have EO := Lib.hid (EO.out.trans (by rw [B2, B3] <;> rfl : _ = true))
        have o2 : (FloatKind.f32.format.order m lo == some .lt) = true := B2
        have o3 : (FloatKind.f32.format.order m hi == some .gt) = false := B3
        clear B1 B2 B3 v1 v2 v3 LG
        go_enter Try.func18, Try.ntmps18
        go_wp2_with fail
        refine (SP.out _ _ A.out).mono ?_
        rintro e w' ⟨rfl, n, rfl⟩
        go_wp2_with fail
        refine (specFinite_any m _).mono ?_
        rw [H1.out]
        rintro e w' ⟨rfl, n2, rfl⟩
        go_wp2_with go_in
        all_goals refine bodyPost_ret (v := .tuple #[.agg #[.int .i64 rm, .float .f32 pw, .float .f32 lo, .float .f32 hi, .bool true], .float .f32 pw, .bool true]) ?_ rfl ?_
        all_goals first | (rw [results_cell_tmp2 rfl]; go_simp; done) | exact FY.out true _ _ E.out EO.out (by repeat (first | (with_reducible refine Below.setCell ?_ (by first | exact Nat.le_refl _ | (simp; done) | (simp; omega) | omega) _) | (with_reducible refine below_drewN ?_ _) | (with_reducible refine Below.drew ?_) | (with_reducible exact Bw.out) | (with_reducible exact Below.refl _ _) | (with_reducible refine Below.alloc ?_ (by first | exact Nat.le_refl _ | (simp; done) | (simp; omega) | omega) _)))

theorem specTurnH_any (s : HT) (m : Nat) (w : World) : Calls Try.prog 18 #[s.ag, .float .f32 m] w (TrnB s m w) := by
  obtain ⟨rm, pw, lo, hi, on⟩ := s
  cases on
  · exact specTurnH_false rm pw lo hi m w
  · exact specTurnH_true rm pw lo hi m w

set_option maxHeartbeats 800000 in
theorem implTurnH_false (rm : Int) (pw lo hi m : Nat) (w : World) : Calls Try.prog 19 #[.agg #[.int .i64 rm, .float .f32 pw, .float .f32 lo, .float .f32 hi, .bool false], .float .f32 m] w (TrnB (⟨rm, pw, lo, hi, false⟩ : HT) m w) := by
  have A := Lib.hid ((Cells.made w [Value.int .i64 rm, .float .f32 pw, .float .f32 lo, .float .f32 hi, .bool false] 26).al (.cells ([Value.int .i64 0, .float .f32 0, .float .f32 0, .float .f32 0, .bool false]).toArray 26))
  have X := Cells.made (w.alloc (.cells ([Value.int .i64 rm, .float .f32 pw, .float .f32 lo, .float .f32 hi, .bool false]).toArray 26)) [Value.int .i64 0, .float .f32 0, .float .f32 0, .float .f32 0, .bool false] 26
  rw [show (w.alloc (.cells ([Value.int .i64 rm, .float .f32 pw, .float .f32 lo, .float .f32 hi, .bool false]).toArray 26)).heap.size = w.heap.size + 1 from by simp] at X
  have X := Lib.hid X
  have Bw := Lib.hid (below_al2 w (.cells ([Value.int .i64 rm, .float .f32 pw, .float .f32 lo, .float .f32 hi, .bool false]).toArray 26) (.cells ([Value.int .i64 0, .float .f32 0, .float .f32 0, .float .f32 0, .bool false]).toArray 26))
  have FN := Lib.hid (fun w1 w2 hb => @TrnB.no (⟨rm, pw, lo, hi, false⟩ : HT) m w1 w2 hb)
  have FY := Lib.hid (fun o w1 w2 h ho hb => @TrnB.yes (⟨rm, pw, lo, hi, false⟩ : HT) m o w1 w2 h ho hb)
  have LG := Lib.hid (fun h1 h2 h3 h h4 => @lt_not_gt lo hi m h1 h2 h3 h h4)
  have VE := Lib.hid (show vHtr (⟨rm, pw, lo, hi, false⟩ : HT) = true → fin .f32 lo = true ∧ fin .f32 hi = true ∧ ltN lo hi = true from fun h => by unfold vHtr at h; simp only [Bool.and_eq_true] at h; exact ⟨h.1.1.2, h.1.2, h.2⟩)
  have EB := Lib.hid (show ∀ b, vHtr (⟨rm, pw, lo, hi, false⟩ : HT) = b → trnB (⟨rm, pw, lo, hi, false⟩ : HT) m = (b && fin .f32 m) from fun b h => by unfold trnB; rw [h])
  have EO := Lib.hid (show onT lo hi m false = (bif gtM m hi then false else bif ltN m lo then true else false) from rfl)
  have SP := Lib.hid (fun w1 => implHeater_any (⟨rm, pw, lo, hi, false⟩ : HT) w1)
  generalize hv : vHtr (⟨rm, pw, lo, hi, false⟩ : HT) = v at *
  cases v
  · skip
    have E := Lib.hid (EB.out _ rfl)
    clear VE EB hv
    go_enter Try.func19, Try.ntmps19
    go_wp2_with fail
    refine (SP.out _).mono ?_
    rintro e w1 ⟨rfl, hb⟩
    have A := Lib.hid (A.out.kept hb)
    have X := Lib.hid (X.out.kept hb)
    have Bw := Lib.hid (below_step Bw.out hb)
    clear hb
    have c0 := A.out.at 0 rfl; have c1 := A.out.at 1 rfl; have c2 := A.out.at 2 rfl; have c3 := A.out.at 3 rfl; have c4 := A.out.at 4 rfl
    have d0 := X.out.at 0 rfl; have d1 := X.out.at 1 rfl; have d2 := X.out.at 2 rfl; have d3 := X.out.at 3 rfl; have d4 := X.out.at 4 rfl
    have af := A.out.fz; have xf := X.out.fz
    go_wp2
    refine bodyPost_ret (v := .tuple #[.agg #[.int .i64 0, .float .f32 0, .float .f32 0, .float .f32 0, .bool false], .float .f32 0, .bool false]) ?_ rfl ?_
    · rw [results_cell_tmp2 rfl]
      go_simp
    · exact FN.out _ _ E.out (by repeat (first | (with_reducible refine Below.setCell ?_ (by first | exact Nat.le_refl _ | (simp; done) | (simp; omega) | omega) _) | (with_reducible refine below_drewN ?_ _) | (with_reducible refine Below.drew ?_) | (with_reducible exact Bw.out) | (with_reducible exact Below.refl _ _) | (with_reducible refine Below.alloc ?_ (by first | exact Nat.le_refl _ | (simp; done) | (simp; omega) | omega) _)))
  · skip
    cases B1 : fin .f32 m
    · skip
      have E := Lib.hid ((EB.out _ rfl).trans (by rw [B1]))
      have H1 := Lib.hid B1
      clear B1 VE EB hv
      go_enter Try.func19, Try.ntmps19
      go_wp2_with fail
      refine (SP.out _).mono ?_
      rintro e w1 ⟨rfl, hb⟩
      have A := Lib.hid (A.out.kept hb)
      have X := Lib.hid (X.out.kept hb)
      have Bw := Lib.hid (below_step Bw.out hb)
      clear hb
      have c0 := A.out.at 0 rfl; have c1 := A.out.at 1 rfl; have c2 := A.out.at 2 rfl; have c3 := A.out.at 3 rfl; have c4 := A.out.at 4 rfl
      have d0 := X.out.at 0 rfl; have d1 := X.out.at 1 rfl; have d2 := X.out.at 2 rfl; have d3 := X.out.at 3 rfl; have d4 := X.out.at 4 rfl
      have af := A.out.fz; have xf := X.out.fz
      go_wp2_with fail
      refine (implFinite_any m _).mono ?_
      rw [H1.out]
      rintro e w' ⟨rfl, n2, rfl⟩
      go_wp2
      refine bodyPost_ret (v := .tuple #[.agg #[.int .i64 0, .float .f32 0, .float .f32 0, .float .f32 0, .bool false], .float .f32 0, .bool false]) ?_ rfl ?_
      · rw [results_cell_tmp2 rfl]
        go_simp
      · exact FN.out _ _ E.out (by repeat (first | (with_reducible refine Below.setCell ?_ (by first | exact Nat.le_refl _ | (simp; done) | (simp; omega) | omega) _) | (with_reducible refine below_drewN ?_ _) | (with_reducible refine Below.drew ?_) | (with_reducible exact Bw.out) | (with_reducible exact Below.refl _ _) | (with_reducible refine Below.alloc ?_ (by first | exact Nat.le_refl _ | (simp; done) | (simp; omega) | omega) _)))
    · skip
      have E := Lib.hid ((EB.out _ rfl).trans (by rw [B1]))
      obtain ⟨v1, v2, v3⟩ := VE.out rfl
      have H1 := Lib.hid B1
      clear VE EB hv
      cases B2 : ltN m lo
      · skip
        cases B3 : gtM m hi
        · skip
          have EO := Lib.hid (EO.out.trans (by rw [B2, B3] <;> rfl : _ = false))
          have o2 : (FloatKind.f32.format.order m lo == some .lt) = false := B2
          have o3 : (FloatKind.f32.format.order m hi == some .gt) = false := B3
          clear B1 B2 B3 v1 v2 v3 LG
          go_enter Try.func19, Try.ntmps19
          go_wp2_with fail
          refine (SP.out _).mono ?_
          rintro e w1 ⟨rfl, hb⟩
          have A := Lib.hid (A.out.kept hb)
          have X := Lib.hid (X.out.kept hb)
          have Bw := Lib.hid (below_step Bw.out hb)
          clear hb
          have c0 := A.out.at 0 rfl; have c1 := A.out.at 1 rfl; have c2 := A.out.at 2 rfl; have c3 := A.out.at 3 rfl; have c4 := A.out.at 4 rfl
          have d0 := X.out.at 0 rfl; have d1 := X.out.at 1 rfl; have d2 := X.out.at 2 rfl; have d3 := X.out.at 3 rfl; have d4 := X.out.at 4 rfl
          have af := A.out.fz; have xf := X.out.fz
          go_wp2_with fail
          refine (implFinite_any m _).mono ?_
          rw [H1.out]
          rintro e w' ⟨rfl, n2, rfl⟩
          go_wp2
          all_goals refine bodyPost_ret (v := .tuple #[.agg #[.int .i64 rm, .float .f32 pw, .float .f32 lo, .float .f32 hi, .bool false], .float .f32 0, .bool true]) ?_ rfl ?_
          all_goals first | (rw [results_cell_tmp2 rfl]; go_simp; done) | exact FY.out false _ _ E.out EO.out (by repeat (first | (with_reducible refine Below.setCell ?_ (by first | exact Nat.le_refl _ | (simp; done) | (simp; omega) | omega) _) | (with_reducible refine below_drewN ?_ _) | (with_reducible refine Below.drew ?_) | (with_reducible exact Bw.out) | (with_reducible exact Below.refl _ _) | (with_reducible refine Below.alloc ?_ (by first | exact Nat.le_refl _ | (simp; done) | (simp; omega) | omega) _)))
        · skip
          have EO := Lib.hid (EO.out.trans (by rw [B2, B3] <;> rfl : _ = false))
          have o2 : (FloatKind.f32.format.order m lo == some .lt) = false := B2
          have o3 : (FloatKind.f32.format.order m hi == some .gt) = true := B3
          clear B1 B2 B3 v1 v2 v3 LG
          go_enter Try.func19, Try.ntmps19
          go_wp2_with fail
          refine (SP.out _).mono ?_
          rintro e w1 ⟨rfl, hb⟩
          have A := Lib.hid (A.out.kept hb)
          have X := Lib.hid (X.out.kept hb)
          have Bw := Lib.hid (below_step Bw.out hb)
          clear hb
          have c0 := A.out.at 0 rfl; have c1 := A.out.at 1 rfl; have c2 := A.out.at 2 rfl; have c3 := A.out.at 3 rfl; have c4 := A.out.at 4 rfl
          have d0 := X.out.at 0 rfl; have d1 := X.out.at 1 rfl; have d2 := X.out.at 2 rfl; have d3 := X.out.at 3 rfl; have d4 := X.out.at 4 rfl
          have af := A.out.fz; have xf := X.out.fz
          go_wp2_with fail
          refine (implFinite_any m _).mono ?_
          rw [H1.out]
          rintro e w' ⟨rfl, n2, rfl⟩
          go_wp2
          all_goals refine bodyPost_ret (v := .tuple #[.agg #[.int .i64 rm, .float .f32 pw, .float .f32 lo, .float .f32 hi, .bool false], .float .f32 0, .bool true]) ?_ rfl ?_
          all_goals first | (rw [results_cell_tmp2 rfl]; go_simp; done) | exact FY.out false _ _ E.out EO.out (by repeat (first | (with_reducible refine Below.setCell ?_ (by first | exact Nat.le_refl _ | (simp; done) | (simp; omega) | omega) _) | (with_reducible refine below_drewN ?_ _) | (with_reducible refine Below.drew ?_) | (with_reducible exact Bw.out) | (with_reducible exact Below.refl _ _) | (with_reducible refine Below.alloc ?_ (by first | exact Nat.le_refl _ | (simp; done) | (simp; omega) | omega) _)))
      · skip
        have B3 := LG.out v1 v2 B1 v3 B2
        have EO := Lib.hid (EO.out.trans (by rw [B2, B3] <;> rfl : _ = true))
        have o2 : (FloatKind.f32.format.order m lo == some .lt) = true := B2
        have o3 : (FloatKind.f32.format.order m hi == some .gt) = false := B3
        clear B1 B2 B3 v1 v2 v3 LG
        go_enter Try.func19, Try.ntmps19
        go_wp2_with fail
        refine (SP.out _).mono ?_
        rintro e w1 ⟨rfl, hb⟩
        have A := Lib.hid (A.out.kept hb)
        have X := Lib.hid (X.out.kept hb)
        have Bw := Lib.hid (below_step Bw.out hb)
        clear hb
        have c0 := A.out.at 0 rfl; have c1 := A.out.at 1 rfl; have c2 := A.out.at 2 rfl; have c3 := A.out.at 3 rfl; have c4 := A.out.at 4 rfl
        have d0 := X.out.at 0 rfl; have d1 := X.out.at 1 rfl; have d2 := X.out.at 2 rfl; have d3 := X.out.at 3 rfl; have d4 := X.out.at 4 rfl
        have af := A.out.fz; have xf := X.out.fz
        go_wp2_with fail
        refine (implFinite_any m _).mono ?_
        rw [H1.out]
        rintro e w' ⟨rfl, n2, rfl⟩
        go_wp2
        go_region
        all_goals go_wp2
        all_goals refine bodyPost_ret (v := .tuple #[.agg #[.int .i64 rm, .float .f32 pw, .float .f32 lo, .float .f32 hi, .bool true], .float .f32 pw, .bool true]) ?_ rfl ?_
        all_goals first | (rw [results_cell_tmp2 rfl]; go_simp; done) | exact FY.out true _ _ E.out EO.out (by repeat (first | (with_reducible refine Below.setCell ?_ (by first | exact Nat.le_refl _ | (simp; done) | (simp; omega) | omega) _) | (with_reducible refine below_drewN ?_ _) | (with_reducible refine Below.drew ?_) | (with_reducible exact Bw.out) | (with_reducible exact Below.refl _ _) | (with_reducible refine Below.alloc ?_ (by first | exact Nat.le_refl _ | (simp; done) | (simp; omega) | omega) _)))

set_option maxHeartbeats 800000 in
theorem implTurnH_true (rm : Int) (pw lo hi m : Nat) (w : World) : Calls Try.prog 19 #[.agg #[.int .i64 rm, .float .f32 pw, .float .f32 lo, .float .f32 hi, .bool true], .float .f32 m] w (TrnB (⟨rm, pw, lo, hi, true⟩ : HT) m w) := by
  have A := Lib.hid ((Cells.made w [Value.int .i64 rm, .float .f32 pw, .float .f32 lo, .float .f32 hi, .bool true] 26).al (.cells ([Value.int .i64 0, .float .f32 0, .float .f32 0, .float .f32 0, .bool false]).toArray 26))
  have X := Cells.made (w.alloc (.cells ([Value.int .i64 rm, .float .f32 pw, .float .f32 lo, .float .f32 hi, .bool true]).toArray 26)) [Value.int .i64 0, .float .f32 0, .float .f32 0, .float .f32 0, .bool false] 26
  rw [show (w.alloc (.cells ([Value.int .i64 rm, .float .f32 pw, .float .f32 lo, .float .f32 hi, .bool true]).toArray 26)).heap.size = w.heap.size + 1 from by simp] at X
  have X := Lib.hid X
  have Bw := Lib.hid (below_al2 w (.cells ([Value.int .i64 rm, .float .f32 pw, .float .f32 lo, .float .f32 hi, .bool true]).toArray 26) (.cells ([Value.int .i64 0, .float .f32 0, .float .f32 0, .float .f32 0, .bool false]).toArray 26))
  have FN := Lib.hid (fun w1 w2 hb => @TrnB.no (⟨rm, pw, lo, hi, true⟩ : HT) m w1 w2 hb)
  have FY := Lib.hid (fun o w1 w2 h ho hb => @TrnB.yes (⟨rm, pw, lo, hi, true⟩ : HT) m o w1 w2 h ho hb)
  have LG := Lib.hid (fun h1 h2 h3 h h4 => @lt_not_gt lo hi m h1 h2 h3 h h4)
  have VE := Lib.hid (show vHtr (⟨rm, pw, lo, hi, true⟩ : HT) = true → fin .f32 lo = true ∧ fin .f32 hi = true ∧ ltN lo hi = true from fun h => by unfold vHtr at h; simp only [Bool.and_eq_true] at h; exact ⟨h.1.1.2, h.1.2, h.2⟩)
  have EB := Lib.hid (show ∀ b, vHtr (⟨rm, pw, lo, hi, true⟩ : HT) = b → trnB (⟨rm, pw, lo, hi, true⟩ : HT) m = (b && fin .f32 m) from fun b h => by unfold trnB; rw [h])
  have EO := Lib.hid (show onT lo hi m true = (bif gtM m hi then false else bif ltN m lo then true else true) from rfl)
  have SP := Lib.hid (fun w1 => implHeater_any (⟨rm, pw, lo, hi, true⟩ : HT) w1)
  generalize hv : vHtr (⟨rm, pw, lo, hi, true⟩ : HT) = v at *
  cases v
  · skip
    have E := Lib.hid (EB.out _ rfl)
    clear VE EB hv
    go_enter Try.func19, Try.ntmps19
    go_wp2_with fail
    refine (SP.out _).mono ?_
    rintro e w1 ⟨rfl, hb⟩
    have A := Lib.hid (A.out.kept hb)
    have X := Lib.hid (X.out.kept hb)
    have Bw := Lib.hid (below_step Bw.out hb)
    clear hb
    have c0 := A.out.at 0 rfl; have c1 := A.out.at 1 rfl; have c2 := A.out.at 2 rfl; have c3 := A.out.at 3 rfl; have c4 := A.out.at 4 rfl
    have d0 := X.out.at 0 rfl; have d1 := X.out.at 1 rfl; have d2 := X.out.at 2 rfl; have d3 := X.out.at 3 rfl; have d4 := X.out.at 4 rfl
    have af := A.out.fz; have xf := X.out.fz
    go_wp2
    refine bodyPost_ret (v := .tuple #[.agg #[.int .i64 0, .float .f32 0, .float .f32 0, .float .f32 0, .bool false], .float .f32 0, .bool false]) ?_ rfl ?_
    · rw [results_cell_tmp2 rfl]
      go_simp
    · exact FN.out _ _ E.out (by repeat (first | (with_reducible refine Below.setCell ?_ (by first | exact Nat.le_refl _ | (simp; done) | (simp; omega) | omega) _) | (with_reducible refine below_drewN ?_ _) | (with_reducible refine Below.drew ?_) | (with_reducible exact Bw.out) | (with_reducible exact Below.refl _ _) | (with_reducible refine Below.alloc ?_ (by first | exact Nat.le_refl _ | (simp; done) | (simp; omega) | omega) _)))
  · skip
    cases B1 : fin .f32 m
    · skip
      have E := Lib.hid ((EB.out _ rfl).trans (by rw [B1]))
      have H1 := Lib.hid B1
      clear B1 VE EB hv
      go_enter Try.func19, Try.ntmps19
      go_wp2_with fail
      refine (SP.out _).mono ?_
      rintro e w1 ⟨rfl, hb⟩
      have A := Lib.hid (A.out.kept hb)
      have X := Lib.hid (X.out.kept hb)
      have Bw := Lib.hid (below_step Bw.out hb)
      clear hb
      have c0 := A.out.at 0 rfl; have c1 := A.out.at 1 rfl; have c2 := A.out.at 2 rfl; have c3 := A.out.at 3 rfl; have c4 := A.out.at 4 rfl
      have d0 := X.out.at 0 rfl; have d1 := X.out.at 1 rfl; have d2 := X.out.at 2 rfl; have d3 := X.out.at 3 rfl; have d4 := X.out.at 4 rfl
      have af := A.out.fz; have xf := X.out.fz
      go_wp2_with fail
      refine (implFinite_any m _).mono ?_
      rw [H1.out]
      rintro e w' ⟨rfl, n2, rfl⟩
      go_wp2
      refine bodyPost_ret (v := .tuple #[.agg #[.int .i64 0, .float .f32 0, .float .f32 0, .float .f32 0, .bool false], .float .f32 0, .bool false]) ?_ rfl ?_
      · rw [results_cell_tmp2 rfl]
        go_simp
      · exact FN.out _ _ E.out (by repeat (first | (with_reducible refine Below.setCell ?_ (by first | exact Nat.le_refl _ | (simp; done) | (simp; omega) | omega) _) | (with_reducible refine below_drewN ?_ _) | (with_reducible refine Below.drew ?_) | (with_reducible exact Bw.out) | (with_reducible exact Below.refl _ _) | (with_reducible refine Below.alloc ?_ (by first | exact Nat.le_refl _ | (simp; done) | (simp; omega) | omega) _)))
    · skip
      have E := Lib.hid ((EB.out _ rfl).trans (by rw [B1]))
      obtain ⟨v1, v2, v3⟩ := VE.out rfl
      have H1 := Lib.hid B1
      clear VE EB hv
      cases B2 : ltN m lo
      · skip
        cases B3 : gtM m hi
        · skip
          have EO := Lib.hid (EO.out.trans (by rw [B2, B3] <;> rfl : _ = true))
          have o2 : (FloatKind.f32.format.order m lo == some .lt) = false := B2
          have o3 : (FloatKind.f32.format.order m hi == some .gt) = false := B3
          clear B1 B2 B3 v1 v2 v3 LG
          go_enter Try.func19, Try.ntmps19
          go_wp2_with fail
          refine (SP.out _).mono ?_
          rintro e w1 ⟨rfl, hb⟩
          have A := Lib.hid (A.out.kept hb)
          have X := Lib.hid (X.out.kept hb)
          have Bw := Lib.hid (below_step Bw.out hb)
          clear hb
          have c0 := A.out.at 0 rfl; have c1 := A.out.at 1 rfl; have c2 := A.out.at 2 rfl; have c3 := A.out.at 3 rfl; have c4 := A.out.at 4 rfl
          have d0 := X.out.at 0 rfl; have d1 := X.out.at 1 rfl; have d2 := X.out.at 2 rfl; have d3 := X.out.at 3 rfl; have d4 := X.out.at 4 rfl
          have af := A.out.fz; have xf := X.out.fz
          go_wp2_with fail
          refine (implFinite_any m _).mono ?_
          rw [H1.out]
          rintro e w' ⟨rfl, n2, rfl⟩
          go_wp2
          go_region
          all_goals go_wp2
          all_goals refine bodyPost_ret (v := .tuple #[.agg #[.int .i64 rm, .float .f32 pw, .float .f32 lo, .float .f32 hi, .bool true], .float .f32 pw, .bool true]) ?_ rfl ?_
          all_goals first | (rw [results_cell_tmp2 rfl]; go_simp; done) | exact FY.out true _ _ E.out EO.out (by repeat (first | (with_reducible refine Below.setCell ?_ (by first | exact Nat.le_refl _ | (simp; done) | (simp; omega) | omega) _) | (with_reducible refine below_drewN ?_ _) | (with_reducible refine Below.drew ?_) | (with_reducible exact Bw.out) | (with_reducible exact Below.refl _ _) | (with_reducible refine Below.alloc ?_ (by first | exact Nat.le_refl _ | (simp; done) | (simp; omega) | omega) _)))
        · skip
          have EO := Lib.hid (EO.out.trans (by rw [B2, B3] <;> rfl : _ = false))
          have o2 : (FloatKind.f32.format.order m lo == some .lt) = false := B2
          have o3 : (FloatKind.f32.format.order m hi == some .gt) = true := B3
          clear B1 B2 B3 v1 v2 v3 LG
          go_enter Try.func19, Try.ntmps19
          go_wp2_with fail
          refine (SP.out _).mono ?_
          rintro e w1 ⟨rfl, hb⟩
          have A := Lib.hid (A.out.kept hb)
          have X := Lib.hid (X.out.kept hb)
          have Bw := Lib.hid (below_step Bw.out hb)
          clear hb
          have c0 := A.out.at 0 rfl; have c1 := A.out.at 1 rfl; have c2 := A.out.at 2 rfl; have c3 := A.out.at 3 rfl; have c4 := A.out.at 4 rfl
          have d0 := X.out.at 0 rfl; have d1 := X.out.at 1 rfl; have d2 := X.out.at 2 rfl; have d3 := X.out.at 3 rfl; have d4 := X.out.at 4 rfl
          have af := A.out.fz; have xf := X.out.fz
          go_wp2_with fail
          refine (implFinite_any m _).mono ?_
          rw [H1.out]
          rintro e w' ⟨rfl, n2, rfl⟩
          go_wp2
          all_goals refine bodyPost_ret (v := .tuple #[.agg #[.int .i64 rm, .float .f32 pw, .float .f32 lo, .float .f32 hi, .bool false], .float .f32 0, .bool true]) ?_ rfl ?_
          all_goals first | (rw [results_cell_tmp2 rfl]; go_simp; done) | exact FY.out false _ _ E.out EO.out (by repeat (first | (with_reducible refine Below.setCell ?_ (by first | exact Nat.le_refl _ | (simp; done) | (simp; omega) | omega) _) | (with_reducible refine below_drewN ?_ _) | (with_reducible refine Below.drew ?_) | (with_reducible exact Bw.out) | (with_reducible exact Below.refl _ _) | (with_reducible refine Below.alloc ?_ (by first | exact Nat.le_refl _ | (simp; done) | (simp; omega) | omega) _)))
      · skip
        have B3 := LG.out v1 v2 B1 v3 B2
        have EO := Lib.hid (EO.out.trans (by rw [B2, B3] <;> rfl : _ = true))
        have o2 : (FloatKind.f32.format.order m lo == some .lt) = true := B2
        have o3 : (FloatKind.f32.format.order m hi == some .gt) = false := B3
        clear B1 B2 B3 v1 v2 v3 LG
        go_enter Try.func19, Try.ntmps19
        go_wp2_with fail
        refine (SP.out _).mono ?_
        rintro e w1 ⟨rfl, hb⟩
        have A := Lib.hid (A.out.kept hb)
        have X := Lib.hid (X.out.kept hb)
        have Bw := Lib.hid (below_step Bw.out hb)
        clear hb
        have c0 := A.out.at 0 rfl; have c1 := A.out.at 1 rfl; have c2 := A.out.at 2 rfl; have c3 := A.out.at 3 rfl; have c4 := A.out.at 4 rfl
        have d0 := X.out.at 0 rfl; have d1 := X.out.at 1 rfl; have d2 := X.out.at 2 rfl; have d3 := X.out.at 3 rfl; have d4 := X.out.at 4 rfl
        have af := A.out.fz; have xf := X.out.fz
        go_wp2_with fail
        refine (implFinite_any m _).mono ?_
        rw [H1.out]
        rintro e w' ⟨rfl, n2, rfl⟩
        go_wp2
        go_region
        all_goals go_wp2
        all_goals refine bodyPost_ret (v := .tuple #[.agg #[.int .i64 rm, .float .f32 pw, .float .f32 lo, .float .f32 hi, .bool true], .float .f32 pw, .bool true]) ?_ rfl ?_
        all_goals first | (rw [results_cell_tmp2 rfl]; go_simp; done) | exact FY.out true _ _ E.out EO.out (by repeat (first | (with_reducible refine Below.setCell ?_ (by first | exact Nat.le_refl _ | (simp; done) | (simp; omega) | omega) _) | (with_reducible refine below_drewN ?_ _) | (with_reducible refine Below.drew ?_) | (with_reducible exact Bw.out) | (with_reducible exact Below.refl _ _) | (with_reducible refine Below.alloc ?_ (by first | exact Nat.le_refl _ | (simp; done) | (simp; omega) | omega) _)))

theorem implTurnH_any (s : HT) (m : Nat) (w : World) : Calls Try.prog 19 #[s.ag, .float .f32 m] w (TrnB s m w) := by
  obtain ⟨rm, pw, lo, hi, on⟩ := s
  cases on
  · exact implTurnH_false rm pw lo hi m w
  · exact implTurnH_true rm pw lo hi m w

theorem eqHeater_any (s : HT) (w : World) : Calls Try.prog 20 #[s.ag, s.ag] w (BolB true w) := by
  go_enter Try.func20, Try.ntmps20
  go_wp2_with (first | (refine wpList_up rfl Try.underlying22 Try.underlying33 _ rfl _ rfl ?_; intro _ _ _) | (go_at_call 21; refine (same_end _ (by assumption) (by assumption) rfl).mono ?_; rintro e w' ⟨rfl, m, rfl⟩))
  go_ret
  exact ⟨rfl, (by repeat (first | exact Below.refl _ _ | refine Below.setCell ?_ (by first | exact Nat.le_refl _ | (simp; done) | (simp; omega) | omega) _ | refine below_drewN ?_ _ | refine Below.alloc ?_ (by first | exact Nat.le_refl _ | (simp; done) | (simp; omega) | omega) _))⟩

set_option maxRecDepth 20000 in
set_option maxHeartbeats 800000 in
theorem fnExactTurnHeater_walk (s : HT) (m : Nat) (w : World) (_ : s.wf) (_ : (Lit.float .f32 m).wf = true) : Calls Try.prog 4 #[.agg #[.int .i64 s.rm, .float .f32 s.pw, .float .f32 s.lo, .float .f32 s.hi, .bool s.on], .float .f32 m] w (Tru w) := by
  have A := Lib.hid (Cells.made w s.vs 24)
  have Bw := Lib.hid (below_al1 w (.cells #[.int .i64 s.rm, .float .f32 s.pw, .float .f32 s.lo, .float .f32 s.hi, .bool s.on] 24))
  have SP := Lib.hid (specTurnH_any s m)
  have IP := Lib.hid (implTurnH_any s m)
  unfold TrnB at SP IP
  generalize trnR s m = R at *
  generalize trnP s m = p at *
  generalize trnB s m = b at *
  go_enter Try.func4, Try.ntmps4
  go_wp2_with fail
  refine (toHeater_any s _).mono ?_
  rintro e w1 ⟨rfl, hb⟩
  (first | (have Bw := Lib.hid (below_step Bw.out hb)) | (have Bw := Lib.hid (below_step Bw.out (below_undrew hb))) | (have Bw := Lib.hid (below_step Bw.out (below_unal hb))) | (have Bw := Lib.hid (below_step Bw.out (below_unal (below_undrew hb)))) | (have Bw := Lib.hid (below_step Bw.out (below_undrew (below_unal hb)))) | (have Bw := Lib.hid (below_step Bw.out (below_unal (below_unal hb)))))
  (first | (have A := Lib.hid (A.out.kept hb)) | (have A := Lib.hid (A.out.kept (below_undrew hb))) | (have A := Lib.hid (A.out.kept (below_unal hb))) | (have A := Lib.hid (A.out.kept (below_unal (below_undrew hb)))) | (have A := Lib.hid (A.out.kept (below_undrew (below_unal hb)))) | (have A := Lib.hid (A.out.kept (below_unal (below_unal hb)))))
  have c0 := A.out.at 0 rfl; have c1 := A.out.at 1 rfl; have c2 := A.out.at 2 rfl; have c3 := A.out.at 3 rfl; have c4 := A.out.at 4 rfl
  clear hb
  go_wp2_with fail
  refine (SP.out _).mono ?_
  rintro e w2 ⟨rfl, hb⟩
  (first | (have Bw := Lib.hid (below_step Bw.out hb)) | (have Bw := Lib.hid (below_step Bw.out (below_undrew hb))) | (have Bw := Lib.hid (below_step Bw.out (below_unal hb))) | (have Bw := Lib.hid (below_step Bw.out (below_unal (below_undrew hb)))) | (have Bw := Lib.hid (below_step Bw.out (below_undrew (below_unal hb)))) | (have Bw := Lib.hid (below_step Bw.out (below_unal (below_unal hb)))))
  (first | (have A := Lib.hid (A.out.kept hb)) | (have A := Lib.hid (A.out.kept (below_undrew hb))) | (have A := Lib.hid (A.out.kept (below_unal hb))) | (have A := Lib.hid (A.out.kept (below_unal (below_undrew hb)))) | (have A := Lib.hid (A.out.kept (below_undrew (below_unal hb)))) | (have A := Lib.hid (A.out.kept (below_unal (below_unal hb)))))
  clear c0 c1 c2 c3 c4 hb
  have A := Lib.hid (A.out.al (.cells ([Value.int .i64 R.rm, .float .f32 R.pw, .float .f32 R.lo, .float .f32 R.hi, .bool R.on]).toArray 26))
  have X := Lib.hid (Cells.made w2 [Value.int .i64 R.rm, .float .f32 R.pw, .float .f32 R.lo, .float .f32 R.hi, .bool R.on] 26)
  have Bw := Lib.hid (below_step Bw.out (below_al1 w2 (.cells ([Value.int .i64 R.rm, .float .f32 R.pw, .float .f32 R.lo, .float .f32 R.hi, .bool R.on]).toArray 26)))
  have c0 := A.out.at 0 rfl; have c1 := A.out.at 1 rfl; have c2 := A.out.at 2 rfl; have c3 := A.out.at 3 rfl; have c4 := A.out.at 4 rfl
  go_wp2_with fail
  refine (toHeater_any s _).mono ?_
  rintro e w3 ⟨rfl, hb⟩
  have A := Lib.hid (A.out.kept hb)
  have X := Lib.hid (X.out.kept hb)
  have Bw := Lib.hid (below_step Bw.out hb)
  clear hb c0 c1 c2 c3 c4
  go_wp2_with fail
  refine (IP.out _).mono ?_
  rintro e w4 ⟨rfl, hb⟩
  have A := Lib.hid (A.out.kept hb)
  have X := Lib.hid (X.out.kept hb)
  have Bw := Lib.hid (below_step Bw.out hb)
  clear hb
  have X := Lib.hid (X.out.al (.cells ([Value.int .i64 R.rm, .float .f32 R.pw, .float .f32 R.lo, .float .f32 R.hi, .bool R.on]).toArray 26))
  have Z := Lib.hid (Cells.made w4 [Value.int .i64 R.rm, .float .f32 R.pw, .float .f32 R.lo, .float .f32 R.hi, .bool R.on] 26)
  have Bw := Lib.hid (below_step Bw.out (below_al1 w4 (.cells ([Value.int .i64 R.rm, .float .f32 R.pw, .float .f32 R.lo, .float .f32 R.hi, .bool R.on]).toArray 26)))
  have c0 := X.out.at 0 rfl; have c1 := X.out.at 1 rfl; have c2 := X.out.at 2 rfl; have c3 := X.out.at 3 rfl; have c4 := X.out.at 4 rfl
  have d0 := Z.out.at 0 rfl; have d1 := Z.out.at 1 rfl; have d2 := Z.out.at 2 rfl; have d3 := Z.out.at 3 rfl; have d4 := Z.out.at 4 rfl
  go_wp2_with fail
  refine (eqHeater_any R _).mono ?_
  rintro e w5 ⟨rfl, hb⟩
  have Bw := Lib.hid (below_step Bw.out hb)
  clear hb
  go_wp2_with (first | (refine wpList_up rfl Try.underlying22 Try.underlying33 _ rfl _ rfl ?_; intro _ _ _) | (refine upon_up Try.underlying22 Try.underlying33 _ ?_; intro _ _ _; simp only [Result.andThen_ok]) | (go_at_call 21; refine (same_end (a := p) (b := p) _ (by assumption) (by assumption) rfl).mono ?_; rintro e w' ⟨rfl, n, rfl⟩))
  go_ret
  exact Tru.below (by repeat (first | (with_reducible exact Bw.out) | (with_reducible refine below_drewN ?_ _)))
end Go.Proofs.Ytjkokhdbkmjenaa
