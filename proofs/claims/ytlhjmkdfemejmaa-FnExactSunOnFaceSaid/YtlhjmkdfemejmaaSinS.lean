/- The sine of some turns: the walks of the series, arm by arm. -/
import Derived.Test.YtlhjmkdfemejmaaSinF
import Derived.Test.YtlhjmkdfemejmaaSn
import Derived.Test.YtlhjmkdfemejmaaFin
import Derived.Test.YtlhjmkdfemejmaaNeg
namespace Go.Proofs.Ytlhjmkdfemejmaa
open Go Go.RowKit
set_option linter.unusedVariables false

theorem wpList_fex {P : Program} {ops : Array Oper} {Q : Exit → Act → World → Prop} {rest : List Oper} {o : Oper} {a : Act} {w : World} (hgd : o.guard = none) (op : BinOp) (t : TypeId) (x y : Operand) (t' : TypeId) (ho : o.op = .binOp op t x y t') (k : FloatKind) (m n : Nat)
    (hx : a.eval x = .float k m) (hy : a.eval y = .float k n) (r : Nat) (hr : floatBits op k m n = some r) (h : wpList P ops Q rest (a.put o.dst (.float k r)) w) : wpList P ops Q (o :: rest) a w :=
  wpList_plain hgd fun K hK => by
    unfold Oper.wp execOp
    have hg : (eqGuard op t x y (.float k m) (.float k n)) = pure () := by
      unfold floatBits at hr
      cases op <;> simp only at hr <;> first | (cases hr; done) | rfl
    simp only [ho, hx, hy, hg, Sem.run_bind, Sem.run_pure, Result.andThen_ok, run_float_arith w op t k m n r hr]
    exact hK _ _ h
theorem run_trunc (x : Nat) (w : World) (hn : nn .f64 x = false) : (callFunc 198 #[.float .f64 x]).run Try.prog w = .ok (.value (.float .f64 (truncV x))) w := by
  rw [run_callFunc_extern (e := Extern.MathFloor.toIntegral "math.archTrunc" .zero) Try.func198 (by kernel_rfl) (by kernel_rfl) (by kernel_rfl) (by kernel_rfl)]
  have e : Extern.MathFloor.toIntegral "math.archTrunc" .zero #[.float .f64 x] = (match Ieee.double.read x with
    | .nan s t => if FloatKind.f64.format.quiet t = t then (Sem.pure (.float .f64 x) : Sem Value) else Sem.bind (choose (.extern "math.Floor,Ceil,Trunc,RoundToEven.signallingNaN kept" 2)) fun kept => Sem.pure (.float .f64 (if kept == 1 then x else FloatKind.f64.encode (.nan s (FloatKind.f64.format.quiet t))))
    | d => (Sem.pure (.float .f64 (FloatKind.f64.encode (d.integral .zero))) : Sem Value)) := rfl
  rw [e]
  unfold truncV
  unfold nn FloatKind.decode at hn
  cases h : Ieee.double.read x with
  | number s m i => rfl
  | infinity s => rfl
  | nan s t => rw [show FloatKind.f64.format.read x = _ from h] at hn; simp [Ieee.Datum.isNaN] at hn
theorem trunc_any (x : Nat) (w : World) (hn : nn .f64 x = false) : Calls Try.prog 188 #[.float .f64 x] w fun e w' => e = .returned (.float .f64 (truncV x)) ∧ w = w' := by
  have hf := fun w => run_trunc x w hn
  clear hn
  go_enter Try.func188, Try.ntmps188
  go_wp2
  go_ret
  exact ⟨rfl, rfl⟩
theorem nanF_any (w : World) : Calls Try.prog 75 #[] w fun e w' => e = .returned (.float .f32 2143289344) ∧ w = w' := by
  go_enter Try.func75, Try.ntmps75
  go_wp2
  go_ret
  exact ⟨rfl, rfl⟩
theorem nanL_any (w : World) : Calls Try.prog 161 #[] w fun e w' => e = .returned (.float .f64 9221120237041090561) ∧ w = w' := by
  go_enter Try.func161, Try.ntmps161
  go_wp2
  go_ret
  exact ⟨rfl, rfl⟩
/-- the part of a turn, of a number with a whole part or without -/
theorem part_any (y F F1 : Nat) (b1 : Bool) (w : World) (hy : nn .f64 y = false) (hF : F = frF y) (hT : (FloatKind.f64.format.order (truncV y) 0 == some .eq) = false → floatBits .sub .f64 y (truncV y) = some F) (o1 : tlt F = b1) (e1 : if b1 then floatBits .add .f64 F 4607182418800017408 = some F1 else F1 = F) :
    Calls Try.prog 164 #[.float .f64 y] w fun e w' => e = .returned (.float .f64 F1) ∧ w = w' := by
  have HY := Lib.hid hy
  cases h0 : (FloatKind.f64.format.order (truncV y) 0 == some .eq)
  · skip
    have E0 := hT h0
    have h0' : (FloatKind.f64.format.order (truncV y) 0 != some .eq) = true := by rw [bne, h0]; rfl
    clear hT hF hy
    cases b1
    · have O1 : (FloatKind.f64.format.order F 0 == some .lt) = false := o1
      have E1 : F1 = F := e1
      subst E1
      clear o1 e1
      go_enter Try.func164, Try.ntmps164
      go_wp2_with fail
      refine (trunc_any _ _ HY.out).mono ?_
      rintro e w1 ⟨rfl, rfl⟩
      go_wp2_with (refine wpList_fex rfl _ _ _ _ _ rfl _ _ _ rfl rfl _ (by assumption) ?_)
      go_ret
      exact ⟨rfl, rfl⟩
    · have O1 : (FloatKind.f64.format.order F 0 == some .lt) = true := o1
      have E1 : floatBits .add .f64 F 4607182418800017408 = some F1 := e1
      clear o1 e1
      go_enter Try.func164, Try.ntmps164
      go_wp2_with fail
      refine (trunc_any _ _ HY.out).mono ?_
      rintro e w1 ⟨rfl, rfl⟩
      go_wp2_with (refine wpList_fex rfl _ _ _ _ _ rfl _ _ _ rfl rfl _ (by assumption) ?_)
      go_ret
      exact ⟨rfl, rfl⟩
  · skip
    have E0 : F = y := by rw [hF, frF, h0, if_pos rfl]
    subst E0
    have h0' : (FloatKind.f64.format.order (truncV F) 0 != some .eq) = false := by rw [bne, h0]; rfl
    clear hT hF hy
    cases b1
    · have O1 : (FloatKind.f64.format.order F 0 == some .lt) = false := o1
      have E1 : F1 = F := e1
      subst E1
      clear o1 e1
      go_enter Try.func164, Try.ntmps164
      go_wp2_with fail
      refine (trunc_any _ _ HY.out).mono ?_
      rintro e w1 ⟨rfl, rfl⟩
      go_wp2_with (refine wpList_fex rfl _ _ _ _ _ rfl _ _ _ rfl rfl _ (by assumption) ?_)
      go_ret
      exact ⟨rfl, rfl⟩
    · have O1 : (FloatKind.f64.format.order F 0 == some .lt) = true := o1
      have E1 : floatBits .add .f64 F 4607182418800017408 = some F1 := e1
      clear o1 e1
      go_enter Try.func164, Try.ntmps164
      go_wp2_with fail
      refine (trunc_any _ _ HY.out).mono ?_
      rintro e w1 ⟨rfl, rfl⟩
      go_wp2_with (refine wpList_fex rfl _ _ _ _ _ rfl _ _ _ rfl rfl _ (by assumption) ?_)
      go_ret
      exact ⟨rfl, rfl⟩
set_option maxRecDepth 20000 in
set_option maxHeartbeats 800000 in
theorem specSin000 (F Z U V : Nat) (Q : Nat → Nat) (y : Nat) (n : Int) (SF : Hid (∀ r, FR .sub .f64 y y r → (FloatKind.f64.format.order r 0 != some .eq) = false ∧ (FloatKind.f64.format.order r 0 == some .eq) = true)) (G1 : (FloatKind.f64.format.order y 4841369599423283200 == some .gt || FloatKind.f64.format.order y 4841369599423283200 == some .eq) = false) (G2 : (FloatKind.f64.format.order y 14064741636278059008 == some .lt || FloatKind.f64.format.order y 14064741636278059008 == some .eq) = false) (N1 : floatToIntVal .f64 y .i64 = some n) (N2 : floatBits .sub .f64 y (floatOfInt .f64 n) = some F) (O1 : (FloatKind.f64.format.order F 0 == some .lt) = false) (O2 : (FloatKind.f64.format.order F 4602678819172646912 == some .gt || FloatKind.f64.format.order F 4602678819172646912 == some .eq) = false) (O3 : (FloatKind.f64.format.order F 4598175219545276416 == some .gt) = false) (E4 : floatBits .mul .f64 F 4618760256179416344 = some Z) (E5 : floatBits .mul .f64 Z Z = some U) (P0 : Hid (Q 0 = 4607182418800017408)) (PN : Hid (∀ j, j < 8 → floatBits .mul .f64 U (Q j) = some (fop .mul .f64 U (Q j)) ∧ nn .f64 (fop .quo .f64 (fop .mul .f64 U (Q j)) (floatOfInt .f64 (cof j))) = false ∧ Q (j + 1) = fop .sub .f64 4607182418800017408 (fop .quo .f64 (fop .mul .f64 U (Q j)) (floatOfInt .f64 (cof j))) ∧ nn .f64 (Q (j + 1)) = false)) (V6 : Hid (floatBits .mul .f64 Z (Q 8) = some V)) (w : World) : Calls Try.prog 126 #[.float .f64 y] w (fun e w' => e = .returned (.float .f64 V) ∧ ∃ n, w' = w.drewN n) := by
  have CV := fun w => run_convert_float_int (P := Try.prog) w 26 2 .f64 .i64 y n (by rw [Try.underlying26]; rfl) Try.underlying2 N1
  go_enter Try.func126, Try.ntmps126
  go_wp2_with (refine wpList_farith rfl _ _ _ _ _ rfl rfl _ _ _ rfl rfl ?_; intro q jq gq; have fq := Lib.hid gq; clear gq; refine Stop.go ?_)
  refine Stop.mk ?_
  have sq := (SF.out q fq.out).1
  have sq' := (SF.out q fq.out).2
  go_wp2_with (refine wpList_fex rfl _ _ _ _ _ rfl _ _ _ rfl rfl _ (by assumption) ?_)
  go_loopw [7, 8] (fun p k wr => ∃ (j pv nq : Nat), k = .int .i64 (8 - (j : Int)) ∧ j ≤ 8 ∧ p = .float .f64 pv ∧ wr = w.drewN nq ∧ Hid (pv = Q j)) (fun _ k _ => (intOf k).toNat)
  case atStart => exact ⟨0, 4607182418800017408, jq, rfl, by omega, rfl, rfl, Lib.hid P0.out.symm⟩
  case round =>
    obtain ⟨j, pv, nq, rfl, hj, rfl, rfl, hc⟩ := hrel
    by_cases hk : j < 8
    · have JK := Lib.hid hk
      go_wp2_with (refine wpList_farith rfl _ _ _ _ _ rfl rfl _ _ _ rfl rfl ?_; intro r0 j0 g0; have f0 := Lib.hid g0; clear g0; refine Stop.go ?_)
      refine Stop.mk ?_
      go_wp2_with (refine wpList_farith rfl _ _ _ _ _ rfl rfl _ _ _ rfl rfl ?_; intro r1 j1 g1; have f1 := Lib.hid g1; clear g1; refine Stop.go ?_)
      refine Stop.mk ?_
      go_wp2_with (refine wpList_farith rfl _ _ _ _ _ rfl rfl _ _ _ rfl rfl ?_; intro r2 j2 g2; have f2 := Lib.hid g2; clear g2; refine Stop.go ?_)
      refine Stop.mk ?_
      go_wp2
      go_roundw
      case rel =>
        have f0' := f0.out; rw [hc.out] at f0'
        exact ⟨j + 1, r2, _, by go_num, by omega, rfl, rfl, Lib.hid (sn_step (PN.out j JK.out) f0' f1.out f2.out (by have hk := JK.out; rcases (show j = 0 ∨ j = 1 ∨ j = 2 ∨ j = 3 ∨ j = 4 ∨ j = 5 ∨ j = 6 ∨ j = 7 by omega) with rfl | rfl | rfl | rfl | rfl | rfl | rfl | rfl <;> decide +kernel))⟩
      case measure => simp [intOf]; omega
    · have ej : j = 8 := by omega
      subst ej
      have e8 := hc.out
      subst e8
      have E6 := V6.out
      go_wp2_with (refine wpList_fex rfl _ _ _ _ _ rfl _ _ _ rfl rfl _ (by assumption) ?_)
      go_ret
      exact ⟨rfl, _, rfl⟩

set_option maxRecDepth 20000 in
set_option maxHeartbeats 800000 in
theorem specSin001 (F F3 Z U V : Nat) (Q : Nat → Nat) (y : Nat) (n : Int) (SF : Hid (∀ r, FR .sub .f64 y y r → (FloatKind.f64.format.order r 0 != some .eq) = false ∧ (FloatKind.f64.format.order r 0 == some .eq) = true)) (G1 : (FloatKind.f64.format.order y 4841369599423283200 == some .gt || FloatKind.f64.format.order y 4841369599423283200 == some .eq) = false) (G2 : (FloatKind.f64.format.order y 14064741636278059008 == some .lt || FloatKind.f64.format.order y 14064741636278059008 == some .eq) = false) (N1 : floatToIntVal .f64 y .i64 = some n) (N2 : floatBits .sub .f64 y (floatOfInt .f64 n) = some F) (O1 : (FloatKind.f64.format.order F 0 == some .lt) = false) (O2 : (FloatKind.f64.format.order F 4602678819172646912 == some .gt || FloatKind.f64.format.order F 4602678819172646912 == some .eq) = false) (O3 : (FloatKind.f64.format.order F 4598175219545276416 == some .gt) = true) (E3 : floatBits .sub .f64 4602678819172646912 F = some F3) (E4 : floatBits .mul .f64 F3 4618760256179416344 = some Z) (E5 : floatBits .mul .f64 Z Z = some U) (P0 : Hid (Q 0 = 4607182418800017408)) (PN : Hid (∀ j, j < 8 → floatBits .mul .f64 U (Q j) = some (fop .mul .f64 U (Q j)) ∧ nn .f64 (fop .quo .f64 (fop .mul .f64 U (Q j)) (floatOfInt .f64 (cof j))) = false ∧ Q (j + 1) = fop .sub .f64 4607182418800017408 (fop .quo .f64 (fop .mul .f64 U (Q j)) (floatOfInt .f64 (cof j))) ∧ nn .f64 (Q (j + 1)) = false)) (V6 : Hid (floatBits .mul .f64 Z (Q 8) = some V)) (w : World) : Calls Try.prog 126 #[.float .f64 y] w (fun e w' => e = .returned (.float .f64 V) ∧ ∃ n, w' = w.drewN n) := by
  have CV := fun w => run_convert_float_int (P := Try.prog) w 26 2 .f64 .i64 y n (by rw [Try.underlying26]; rfl) Try.underlying2 N1
  go_enter Try.func126, Try.ntmps126
  go_wp2_with (refine wpList_farith rfl _ _ _ _ _ rfl rfl _ _ _ rfl rfl ?_; intro q jq gq; have fq := Lib.hid gq; clear gq; refine Stop.go ?_)
  refine Stop.mk ?_
  have sq := (SF.out q fq.out).1
  have sq' := (SF.out q fq.out).2
  go_wp2_with (refine wpList_fex rfl _ _ _ _ _ rfl _ _ _ rfl rfl _ (by assumption) ?_)
  go_loopw [7, 8] (fun p k wr => ∃ (j pv nq : Nat), k = .int .i64 (8 - (j : Int)) ∧ j ≤ 8 ∧ p = .float .f64 pv ∧ wr = w.drewN nq ∧ Hid (pv = Q j)) (fun _ k _ => (intOf k).toNat)
  case atStart => exact ⟨0, 4607182418800017408, jq, rfl, by omega, rfl, rfl, Lib.hid P0.out.symm⟩
  case round =>
    obtain ⟨j, pv, nq, rfl, hj, rfl, rfl, hc⟩ := hrel
    by_cases hk : j < 8
    · have JK := Lib.hid hk
      go_wp2_with (refine wpList_farith rfl _ _ _ _ _ rfl rfl _ _ _ rfl rfl ?_; intro r0 j0 g0; have f0 := Lib.hid g0; clear g0; refine Stop.go ?_)
      refine Stop.mk ?_
      go_wp2_with (refine wpList_farith rfl _ _ _ _ _ rfl rfl _ _ _ rfl rfl ?_; intro r1 j1 g1; have f1 := Lib.hid g1; clear g1; refine Stop.go ?_)
      refine Stop.mk ?_
      go_wp2_with (refine wpList_farith rfl _ _ _ _ _ rfl rfl _ _ _ rfl rfl ?_; intro r2 j2 g2; have f2 := Lib.hid g2; clear g2; refine Stop.go ?_)
      refine Stop.mk ?_
      go_wp2
      go_roundw
      case rel =>
        have f0' := f0.out; rw [hc.out] at f0'
        exact ⟨j + 1, r2, _, by go_num, by omega, rfl, rfl, Lib.hid (sn_step (PN.out j JK.out) f0' f1.out f2.out (by have hk := JK.out; rcases (show j = 0 ∨ j = 1 ∨ j = 2 ∨ j = 3 ∨ j = 4 ∨ j = 5 ∨ j = 6 ∨ j = 7 by omega) with rfl | rfl | rfl | rfl | rfl | rfl | rfl | rfl <;> decide +kernel))⟩
      case measure => simp [intOf]; omega
    · have ej : j = 8 := by omega
      subst ej
      have e8 := hc.out
      subst e8
      have E6 := V6.out
      go_wp2_with (refine wpList_fex rfl _ _ _ _ _ rfl _ _ _ rfl rfl _ (by assumption) ?_)
      go_ret
      exact ⟨rfl, _, rfl⟩

set_option maxRecDepth 20000 in
set_option maxHeartbeats 800000 in
theorem specSin010 (F F2 Z U V : Nat) (Q : Nat → Nat) (y : Nat) (n : Int) (SF : Hid (∀ r, FR .sub .f64 y y r → (FloatKind.f64.format.order r 0 != some .eq) = false ∧ (FloatKind.f64.format.order r 0 == some .eq) = true)) (G1 : (FloatKind.f64.format.order y 4841369599423283200 == some .gt || FloatKind.f64.format.order y 4841369599423283200 == some .eq) = false) (G2 : (FloatKind.f64.format.order y 14064741636278059008 == some .lt || FloatKind.f64.format.order y 14064741636278059008 == some .eq) = false) (N1 : floatToIntVal .f64 y .i64 = some n) (N2 : floatBits .sub .f64 y (floatOfInt .f64 n) = some F) (O1 : (FloatKind.f64.format.order F 0 == some .lt) = false) (O2 : (FloatKind.f64.format.order F 4602678819172646912 == some .gt || FloatKind.f64.format.order F 4602678819172646912 == some .eq) = true) (E2 : floatBits .sub .f64 F 4602678819172646912 = some F2) (O3 : (FloatKind.f64.format.order F2 4598175219545276416 == some .gt) = false) (E4 : floatBits .mul .f64 F2 4618760256179416344 = some Z) (E5 : floatBits .mul .f64 Z Z = some U) (P0 : Hid (Q 0 = 4607182418800017408)) (PN : Hid (∀ j, j < 8 → floatBits .mul .f64 U (Q j) = some (fop .mul .f64 U (Q j)) ∧ nn .f64 (fop .quo .f64 (fop .mul .f64 U (Q j)) (floatOfInt .f64 (cof j))) = false ∧ Q (j + 1) = fop .sub .f64 4607182418800017408 (fop .quo .f64 (fop .mul .f64 U (Q j)) (floatOfInt .f64 (cof j))) ∧ nn .f64 (Q (j + 1)) = false)) (V6 : Hid (floatBits .mul .f64 Z (Q 8) = some V)) (w : World) : Calls Try.prog 126 #[.float .f64 y] w (fun e w' => e = .returned (.float .f64 (Op.negFloat .f64 V)) ∧ ∃ n, w' = w.drewN n) := by
  have CV := fun w => run_convert_float_int (P := Try.prog) w 26 2 .f64 .i64 y n (by rw [Try.underlying26]; rfl) Try.underlying2 N1
  go_enter Try.func126, Try.ntmps126
  go_wp2_with (refine wpList_farith rfl _ _ _ _ _ rfl rfl _ _ _ rfl rfl ?_; intro q jq gq; have fq := Lib.hid gq; clear gq; refine Stop.go ?_)
  refine Stop.mk ?_
  have sq := (SF.out q fq.out).1
  have sq' := (SF.out q fq.out).2
  go_wp2_with (refine wpList_fex rfl _ _ _ _ _ rfl _ _ _ rfl rfl _ (by assumption) ?_)
  go_loopw [7, 8] (fun p k wr => ∃ (j pv nq : Nat), k = .int .i64 (8 - (j : Int)) ∧ j ≤ 8 ∧ p = .float .f64 pv ∧ wr = w.drewN nq ∧ Hid (pv = Q j)) (fun _ k _ => (intOf k).toNat)
  case atStart => exact ⟨0, 4607182418800017408, jq, rfl, by omega, rfl, rfl, Lib.hid P0.out.symm⟩
  case round =>
    obtain ⟨j, pv, nq, rfl, hj, rfl, rfl, hc⟩ := hrel
    by_cases hk : j < 8
    · have JK := Lib.hid hk
      go_wp2_with (refine wpList_farith rfl _ _ _ _ _ rfl rfl _ _ _ rfl rfl ?_; intro r0 j0 g0; have f0 := Lib.hid g0; clear g0; refine Stop.go ?_)
      refine Stop.mk ?_
      go_wp2_with (refine wpList_farith rfl _ _ _ _ _ rfl rfl _ _ _ rfl rfl ?_; intro r1 j1 g1; have f1 := Lib.hid g1; clear g1; refine Stop.go ?_)
      refine Stop.mk ?_
      go_wp2_with (refine wpList_farith rfl _ _ _ _ _ rfl rfl _ _ _ rfl rfl ?_; intro r2 j2 g2; have f2 := Lib.hid g2; clear g2; refine Stop.go ?_)
      refine Stop.mk ?_
      go_wp2
      go_roundw
      case rel =>
        have f0' := f0.out; rw [hc.out] at f0'
        exact ⟨j + 1, r2, _, by go_num, by omega, rfl, rfl, Lib.hid (sn_step (PN.out j JK.out) f0' f1.out f2.out (by have hk := JK.out; rcases (show j = 0 ∨ j = 1 ∨ j = 2 ∨ j = 3 ∨ j = 4 ∨ j = 5 ∨ j = 6 ∨ j = 7 by omega) with rfl | rfl | rfl | rfl | rfl | rfl | rfl | rfl <;> decide +kernel))⟩
      case measure => simp [intOf]; omega
    · have ej : j = 8 := by omega
      subst ej
      have e8 := hc.out
      subst e8
      have E6 := V6.out
      go_wp2_with (refine wpList_fex rfl _ _ _ _ _ rfl _ _ _ rfl rfl _ (by assumption) ?_)
      go_ret
      exact ⟨rfl, _, rfl⟩

set_option maxRecDepth 20000 in
set_option maxHeartbeats 800000 in
theorem specSin011 (F F2 F3 Z U V : Nat) (Q : Nat → Nat) (y : Nat) (n : Int) (SF : Hid (∀ r, FR .sub .f64 y y r → (FloatKind.f64.format.order r 0 != some .eq) = false ∧ (FloatKind.f64.format.order r 0 == some .eq) = true)) (G1 : (FloatKind.f64.format.order y 4841369599423283200 == some .gt || FloatKind.f64.format.order y 4841369599423283200 == some .eq) = false) (G2 : (FloatKind.f64.format.order y 14064741636278059008 == some .lt || FloatKind.f64.format.order y 14064741636278059008 == some .eq) = false) (N1 : floatToIntVal .f64 y .i64 = some n) (N2 : floatBits .sub .f64 y (floatOfInt .f64 n) = some F) (O1 : (FloatKind.f64.format.order F 0 == some .lt) = false) (O2 : (FloatKind.f64.format.order F 4602678819172646912 == some .gt || FloatKind.f64.format.order F 4602678819172646912 == some .eq) = true) (E2 : floatBits .sub .f64 F 4602678819172646912 = some F2) (O3 : (FloatKind.f64.format.order F2 4598175219545276416 == some .gt) = true) (E3 : floatBits .sub .f64 4602678819172646912 F2 = some F3) (E4 : floatBits .mul .f64 F3 4618760256179416344 = some Z) (E5 : floatBits .mul .f64 Z Z = some U) (P0 : Hid (Q 0 = 4607182418800017408)) (PN : Hid (∀ j, j < 8 → floatBits .mul .f64 U (Q j) = some (fop .mul .f64 U (Q j)) ∧ nn .f64 (fop .quo .f64 (fop .mul .f64 U (Q j)) (floatOfInt .f64 (cof j))) = false ∧ Q (j + 1) = fop .sub .f64 4607182418800017408 (fop .quo .f64 (fop .mul .f64 U (Q j)) (floatOfInt .f64 (cof j))) ∧ nn .f64 (Q (j + 1)) = false)) (V6 : Hid (floatBits .mul .f64 Z (Q 8) = some V)) (w : World) : Calls Try.prog 126 #[.float .f64 y] w (fun e w' => e = .returned (.float .f64 (Op.negFloat .f64 V)) ∧ ∃ n, w' = w.drewN n) := by
  have CV := fun w => run_convert_float_int (P := Try.prog) w 26 2 .f64 .i64 y n (by rw [Try.underlying26]; rfl) Try.underlying2 N1
  go_enter Try.func126, Try.ntmps126
  go_wp2_with (refine wpList_farith rfl _ _ _ _ _ rfl rfl _ _ _ rfl rfl ?_; intro q jq gq; have fq := Lib.hid gq; clear gq; refine Stop.go ?_)
  refine Stop.mk ?_
  have sq := (SF.out q fq.out).1
  have sq' := (SF.out q fq.out).2
  go_wp2_with (refine wpList_fex rfl _ _ _ _ _ rfl _ _ _ rfl rfl _ (by assumption) ?_)
  go_loopw [7, 8] (fun p k wr => ∃ (j pv nq : Nat), k = .int .i64 (8 - (j : Int)) ∧ j ≤ 8 ∧ p = .float .f64 pv ∧ wr = w.drewN nq ∧ Hid (pv = Q j)) (fun _ k _ => (intOf k).toNat)
  case atStart => exact ⟨0, 4607182418800017408, jq, rfl, by omega, rfl, rfl, Lib.hid P0.out.symm⟩
  case round =>
    obtain ⟨j, pv, nq, rfl, hj, rfl, rfl, hc⟩ := hrel
    by_cases hk : j < 8
    · have JK := Lib.hid hk
      go_wp2_with (refine wpList_farith rfl _ _ _ _ _ rfl rfl _ _ _ rfl rfl ?_; intro r0 j0 g0; have f0 := Lib.hid g0; clear g0; refine Stop.go ?_)
      refine Stop.mk ?_
      go_wp2_with (refine wpList_farith rfl _ _ _ _ _ rfl rfl _ _ _ rfl rfl ?_; intro r1 j1 g1; have f1 := Lib.hid g1; clear g1; refine Stop.go ?_)
      refine Stop.mk ?_
      go_wp2_with (refine wpList_farith rfl _ _ _ _ _ rfl rfl _ _ _ rfl rfl ?_; intro r2 j2 g2; have f2 := Lib.hid g2; clear g2; refine Stop.go ?_)
      refine Stop.mk ?_
      go_wp2
      go_roundw
      case rel =>
        have f0' := f0.out; rw [hc.out] at f0'
        exact ⟨j + 1, r2, _, by go_num, by omega, rfl, rfl, Lib.hid (sn_step (PN.out j JK.out) f0' f1.out f2.out (by have hk := JK.out; rcases (show j = 0 ∨ j = 1 ∨ j = 2 ∨ j = 3 ∨ j = 4 ∨ j = 5 ∨ j = 6 ∨ j = 7 by omega) with rfl | rfl | rfl | rfl | rfl | rfl | rfl | rfl <;> decide +kernel))⟩
      case measure => simp [intOf]; omega
    · have ej : j = 8 := by omega
      subst ej
      have e8 := hc.out
      subst e8
      have E6 := V6.out
      go_wp2_with (refine wpList_fex rfl _ _ _ _ _ rfl _ _ _ rfl rfl _ (by assumption) ?_)
      go_ret
      exact ⟨rfl, _, rfl⟩

set_option maxRecDepth 20000 in
set_option maxHeartbeats 800000 in
theorem specSin100 (F F1 Z U V : Nat) (Q : Nat → Nat) (y : Nat) (n : Int) (SF : Hid (∀ r, FR .sub .f64 y y r → (FloatKind.f64.format.order r 0 != some .eq) = false ∧ (FloatKind.f64.format.order r 0 == some .eq) = true)) (G1 : (FloatKind.f64.format.order y 4841369599423283200 == some .gt || FloatKind.f64.format.order y 4841369599423283200 == some .eq) = false) (G2 : (FloatKind.f64.format.order y 14064741636278059008 == some .lt || FloatKind.f64.format.order y 14064741636278059008 == some .eq) = false) (N1 : floatToIntVal .f64 y .i64 = some n) (N2 : floatBits .sub .f64 y (floatOfInt .f64 n) = some F) (O1 : (FloatKind.f64.format.order F 0 == some .lt) = true) (E1 : floatBits .add .f64 F 4607182418800017408 = some F1) (O2 : (FloatKind.f64.format.order F1 4602678819172646912 == some .gt || FloatKind.f64.format.order F1 4602678819172646912 == some .eq) = false) (O3 : (FloatKind.f64.format.order F1 4598175219545276416 == some .gt) = false) (E4 : floatBits .mul .f64 F1 4618760256179416344 = some Z) (E5 : floatBits .mul .f64 Z Z = some U) (P0 : Hid (Q 0 = 4607182418800017408)) (PN : Hid (∀ j, j < 8 → floatBits .mul .f64 U (Q j) = some (fop .mul .f64 U (Q j)) ∧ nn .f64 (fop .quo .f64 (fop .mul .f64 U (Q j)) (floatOfInt .f64 (cof j))) = false ∧ Q (j + 1) = fop .sub .f64 4607182418800017408 (fop .quo .f64 (fop .mul .f64 U (Q j)) (floatOfInt .f64 (cof j))) ∧ nn .f64 (Q (j + 1)) = false)) (V6 : Hid (floatBits .mul .f64 Z (Q 8) = some V)) (w : World) : Calls Try.prog 126 #[.float .f64 y] w (fun e w' => e = .returned (.float .f64 V) ∧ ∃ n, w' = w.drewN n) := by
  have CV := fun w => run_convert_float_int (P := Try.prog) w 26 2 .f64 .i64 y n (by rw [Try.underlying26]; rfl) Try.underlying2 N1
  go_enter Try.func126, Try.ntmps126
  go_wp2_with (refine wpList_farith rfl _ _ _ _ _ rfl rfl _ _ _ rfl rfl ?_; intro q jq gq; have fq := Lib.hid gq; clear gq; refine Stop.go ?_)
  refine Stop.mk ?_
  have sq := (SF.out q fq.out).1
  have sq' := (SF.out q fq.out).2
  go_wp2_with (refine wpList_fex rfl _ _ _ _ _ rfl _ _ _ rfl rfl _ (by assumption) ?_)
  go_loopw [7, 8] (fun p k wr => ∃ (j pv nq : Nat), k = .int .i64 (8 - (j : Int)) ∧ j ≤ 8 ∧ p = .float .f64 pv ∧ wr = w.drewN nq ∧ Hid (pv = Q j)) (fun _ k _ => (intOf k).toNat)
  case atStart => exact ⟨0, 4607182418800017408, jq, rfl, by omega, rfl, rfl, Lib.hid P0.out.symm⟩
  case round =>
    obtain ⟨j, pv, nq, rfl, hj, rfl, rfl, hc⟩ := hrel
    by_cases hk : j < 8
    · have JK := Lib.hid hk
      go_wp2_with (refine wpList_farith rfl _ _ _ _ _ rfl rfl _ _ _ rfl rfl ?_; intro r0 j0 g0; have f0 := Lib.hid g0; clear g0; refine Stop.go ?_)
      refine Stop.mk ?_
      go_wp2_with (refine wpList_farith rfl _ _ _ _ _ rfl rfl _ _ _ rfl rfl ?_; intro r1 j1 g1; have f1 := Lib.hid g1; clear g1; refine Stop.go ?_)
      refine Stop.mk ?_
      go_wp2_with (refine wpList_farith rfl _ _ _ _ _ rfl rfl _ _ _ rfl rfl ?_; intro r2 j2 g2; have f2 := Lib.hid g2; clear g2; refine Stop.go ?_)
      refine Stop.mk ?_
      go_wp2
      go_roundw
      case rel =>
        have f0' := f0.out; rw [hc.out] at f0'
        exact ⟨j + 1, r2, _, by go_num, by omega, rfl, rfl, Lib.hid (sn_step (PN.out j JK.out) f0' f1.out f2.out (by have hk := JK.out; rcases (show j = 0 ∨ j = 1 ∨ j = 2 ∨ j = 3 ∨ j = 4 ∨ j = 5 ∨ j = 6 ∨ j = 7 by omega) with rfl | rfl | rfl | rfl | rfl | rfl | rfl | rfl <;> decide +kernel))⟩
      case measure => simp [intOf]; omega
    · have ej : j = 8 := by omega
      subst ej
      have e8 := hc.out
      subst e8
      have E6 := V6.out
      go_wp2_with (refine wpList_fex rfl _ _ _ _ _ rfl _ _ _ rfl rfl _ (by assumption) ?_)
      go_ret
      exact ⟨rfl, _, rfl⟩

set_option maxRecDepth 20000 in
set_option maxHeartbeats 800000 in
theorem specSin101 (F F1 F3 Z U V : Nat) (Q : Nat → Nat) (y : Nat) (n : Int) (SF : Hid (∀ r, FR .sub .f64 y y r → (FloatKind.f64.format.order r 0 != some .eq) = false ∧ (FloatKind.f64.format.order r 0 == some .eq) = true)) (G1 : (FloatKind.f64.format.order y 4841369599423283200 == some .gt || FloatKind.f64.format.order y 4841369599423283200 == some .eq) = false) (G2 : (FloatKind.f64.format.order y 14064741636278059008 == some .lt || FloatKind.f64.format.order y 14064741636278059008 == some .eq) = false) (N1 : floatToIntVal .f64 y .i64 = some n) (N2 : floatBits .sub .f64 y (floatOfInt .f64 n) = some F) (O1 : (FloatKind.f64.format.order F 0 == some .lt) = true) (E1 : floatBits .add .f64 F 4607182418800017408 = some F1) (O2 : (FloatKind.f64.format.order F1 4602678819172646912 == some .gt || FloatKind.f64.format.order F1 4602678819172646912 == some .eq) = false) (O3 : (FloatKind.f64.format.order F1 4598175219545276416 == some .gt) = true) (E3 : floatBits .sub .f64 4602678819172646912 F1 = some F3) (E4 : floatBits .mul .f64 F3 4618760256179416344 = some Z) (E5 : floatBits .mul .f64 Z Z = some U) (P0 : Hid (Q 0 = 4607182418800017408)) (PN : Hid (∀ j, j < 8 → floatBits .mul .f64 U (Q j) = some (fop .mul .f64 U (Q j)) ∧ nn .f64 (fop .quo .f64 (fop .mul .f64 U (Q j)) (floatOfInt .f64 (cof j))) = false ∧ Q (j + 1) = fop .sub .f64 4607182418800017408 (fop .quo .f64 (fop .mul .f64 U (Q j)) (floatOfInt .f64 (cof j))) ∧ nn .f64 (Q (j + 1)) = false)) (V6 : Hid (floatBits .mul .f64 Z (Q 8) = some V)) (w : World) : Calls Try.prog 126 #[.float .f64 y] w (fun e w' => e = .returned (.float .f64 V) ∧ ∃ n, w' = w.drewN n) := by
  have CV := fun w => run_convert_float_int (P := Try.prog) w 26 2 .f64 .i64 y n (by rw [Try.underlying26]; rfl) Try.underlying2 N1
  go_enter Try.func126, Try.ntmps126
  go_wp2_with (refine wpList_farith rfl _ _ _ _ _ rfl rfl _ _ _ rfl rfl ?_; intro q jq gq; have fq := Lib.hid gq; clear gq; refine Stop.go ?_)
  refine Stop.mk ?_
  have sq := (SF.out q fq.out).1
  have sq' := (SF.out q fq.out).2
  go_wp2_with (refine wpList_fex rfl _ _ _ _ _ rfl _ _ _ rfl rfl _ (by assumption) ?_)
  go_loopw [7, 8] (fun p k wr => ∃ (j pv nq : Nat), k = .int .i64 (8 - (j : Int)) ∧ j ≤ 8 ∧ p = .float .f64 pv ∧ wr = w.drewN nq ∧ Hid (pv = Q j)) (fun _ k _ => (intOf k).toNat)
  case atStart => exact ⟨0, 4607182418800017408, jq, rfl, by omega, rfl, rfl, Lib.hid P0.out.symm⟩
  case round =>
    obtain ⟨j, pv, nq, rfl, hj, rfl, rfl, hc⟩ := hrel
    by_cases hk : j < 8
    · have JK := Lib.hid hk
      go_wp2_with (refine wpList_farith rfl _ _ _ _ _ rfl rfl _ _ _ rfl rfl ?_; intro r0 j0 g0; have f0 := Lib.hid g0; clear g0; refine Stop.go ?_)
      refine Stop.mk ?_
      go_wp2_with (refine wpList_farith rfl _ _ _ _ _ rfl rfl _ _ _ rfl rfl ?_; intro r1 j1 g1; have f1 := Lib.hid g1; clear g1; refine Stop.go ?_)
      refine Stop.mk ?_
      go_wp2_with (refine wpList_farith rfl _ _ _ _ _ rfl rfl _ _ _ rfl rfl ?_; intro r2 j2 g2; have f2 := Lib.hid g2; clear g2; refine Stop.go ?_)
      refine Stop.mk ?_
      go_wp2
      go_roundw
      case rel =>
        have f0' := f0.out; rw [hc.out] at f0'
        exact ⟨j + 1, r2, _, by go_num, by omega, rfl, rfl, Lib.hid (sn_step (PN.out j JK.out) f0' f1.out f2.out (by have hk := JK.out; rcases (show j = 0 ∨ j = 1 ∨ j = 2 ∨ j = 3 ∨ j = 4 ∨ j = 5 ∨ j = 6 ∨ j = 7 by omega) with rfl | rfl | rfl | rfl | rfl | rfl | rfl | rfl <;> decide +kernel))⟩
      case measure => simp [intOf]; omega
    · have ej : j = 8 := by omega
      subst ej
      have e8 := hc.out
      subst e8
      have E6 := V6.out
      go_wp2_with (refine wpList_fex rfl _ _ _ _ _ rfl _ _ _ rfl rfl _ (by assumption) ?_)
      go_ret
      exact ⟨rfl, _, rfl⟩

set_option maxRecDepth 20000 in
set_option maxHeartbeats 800000 in
theorem specSin110 (F F1 F2 Z U V : Nat) (Q : Nat → Nat) (y : Nat) (n : Int) (SF : Hid (∀ r, FR .sub .f64 y y r → (FloatKind.f64.format.order r 0 != some .eq) = false ∧ (FloatKind.f64.format.order r 0 == some .eq) = true)) (G1 : (FloatKind.f64.format.order y 4841369599423283200 == some .gt || FloatKind.f64.format.order y 4841369599423283200 == some .eq) = false) (G2 : (FloatKind.f64.format.order y 14064741636278059008 == some .lt || FloatKind.f64.format.order y 14064741636278059008 == some .eq) = false) (N1 : floatToIntVal .f64 y .i64 = some n) (N2 : floatBits .sub .f64 y (floatOfInt .f64 n) = some F) (O1 : (FloatKind.f64.format.order F 0 == some .lt) = true) (E1 : floatBits .add .f64 F 4607182418800017408 = some F1) (O2 : (FloatKind.f64.format.order F1 4602678819172646912 == some .gt || FloatKind.f64.format.order F1 4602678819172646912 == some .eq) = true) (E2 : floatBits .sub .f64 F1 4602678819172646912 = some F2) (O3 : (FloatKind.f64.format.order F2 4598175219545276416 == some .gt) = false) (E4 : floatBits .mul .f64 F2 4618760256179416344 = some Z) (E5 : floatBits .mul .f64 Z Z = some U) (P0 : Hid (Q 0 = 4607182418800017408)) (PN : Hid (∀ j, j < 8 → floatBits .mul .f64 U (Q j) = some (fop .mul .f64 U (Q j)) ∧ nn .f64 (fop .quo .f64 (fop .mul .f64 U (Q j)) (floatOfInt .f64 (cof j))) = false ∧ Q (j + 1) = fop .sub .f64 4607182418800017408 (fop .quo .f64 (fop .mul .f64 U (Q j)) (floatOfInt .f64 (cof j))) ∧ nn .f64 (Q (j + 1)) = false)) (V6 : Hid (floatBits .mul .f64 Z (Q 8) = some V)) (w : World) : Calls Try.prog 126 #[.float .f64 y] w (fun e w' => e = .returned (.float .f64 (Op.negFloat .f64 V)) ∧ ∃ n, w' = w.drewN n) := by
  have CV := fun w => run_convert_float_int (P := Try.prog) w 26 2 .f64 .i64 y n (by rw [Try.underlying26]; rfl) Try.underlying2 N1
  go_enter Try.func126, Try.ntmps126
  go_wp2_with (refine wpList_farith rfl _ _ _ _ _ rfl rfl _ _ _ rfl rfl ?_; intro q jq gq; have fq := Lib.hid gq; clear gq; refine Stop.go ?_)
  refine Stop.mk ?_
  have sq := (SF.out q fq.out).1
  have sq' := (SF.out q fq.out).2
  go_wp2_with (refine wpList_fex rfl _ _ _ _ _ rfl _ _ _ rfl rfl _ (by assumption) ?_)
  go_loopw [7, 8] (fun p k wr => ∃ (j pv nq : Nat), k = .int .i64 (8 - (j : Int)) ∧ j ≤ 8 ∧ p = .float .f64 pv ∧ wr = w.drewN nq ∧ Hid (pv = Q j)) (fun _ k _ => (intOf k).toNat)
  case atStart => exact ⟨0, 4607182418800017408, jq, rfl, by omega, rfl, rfl, Lib.hid P0.out.symm⟩
  case round =>
    obtain ⟨j, pv, nq, rfl, hj, rfl, rfl, hc⟩ := hrel
    by_cases hk : j < 8
    · have JK := Lib.hid hk
      go_wp2_with (refine wpList_farith rfl _ _ _ _ _ rfl rfl _ _ _ rfl rfl ?_; intro r0 j0 g0; have f0 := Lib.hid g0; clear g0; refine Stop.go ?_)
      refine Stop.mk ?_
      go_wp2_with (refine wpList_farith rfl _ _ _ _ _ rfl rfl _ _ _ rfl rfl ?_; intro r1 j1 g1; have f1 := Lib.hid g1; clear g1; refine Stop.go ?_)
      refine Stop.mk ?_
      go_wp2_with (refine wpList_farith rfl _ _ _ _ _ rfl rfl _ _ _ rfl rfl ?_; intro r2 j2 g2; have f2 := Lib.hid g2; clear g2; refine Stop.go ?_)
      refine Stop.mk ?_
      go_wp2
      go_roundw
      case rel =>
        have f0' := f0.out; rw [hc.out] at f0'
        exact ⟨j + 1, r2, _, by go_num, by omega, rfl, rfl, Lib.hid (sn_step (PN.out j JK.out) f0' f1.out f2.out (by have hk := JK.out; rcases (show j = 0 ∨ j = 1 ∨ j = 2 ∨ j = 3 ∨ j = 4 ∨ j = 5 ∨ j = 6 ∨ j = 7 by omega) with rfl | rfl | rfl | rfl | rfl | rfl | rfl | rfl <;> decide +kernel))⟩
      case measure => simp [intOf]; omega
    · have ej : j = 8 := by omega
      subst ej
      have e8 := hc.out
      subst e8
      have E6 := V6.out
      go_wp2_with (refine wpList_fex rfl _ _ _ _ _ rfl _ _ _ rfl rfl _ (by assumption) ?_)
      go_ret
      exact ⟨rfl, _, rfl⟩

set_option maxRecDepth 20000 in
set_option maxHeartbeats 800000 in
theorem specSin111 (F F1 F2 F3 Z U V : Nat) (Q : Nat → Nat) (y : Nat) (n : Int) (SF : Hid (∀ r, FR .sub .f64 y y r → (FloatKind.f64.format.order r 0 != some .eq) = false ∧ (FloatKind.f64.format.order r 0 == some .eq) = true)) (G1 : (FloatKind.f64.format.order y 4841369599423283200 == some .gt || FloatKind.f64.format.order y 4841369599423283200 == some .eq) = false) (G2 : (FloatKind.f64.format.order y 14064741636278059008 == some .lt || FloatKind.f64.format.order y 14064741636278059008 == some .eq) = false) (N1 : floatToIntVal .f64 y .i64 = some n) (N2 : floatBits .sub .f64 y (floatOfInt .f64 n) = some F) (O1 : (FloatKind.f64.format.order F 0 == some .lt) = true) (E1 : floatBits .add .f64 F 4607182418800017408 = some F1) (O2 : (FloatKind.f64.format.order F1 4602678819172646912 == some .gt || FloatKind.f64.format.order F1 4602678819172646912 == some .eq) = true) (E2 : floatBits .sub .f64 F1 4602678819172646912 = some F2) (O3 : (FloatKind.f64.format.order F2 4598175219545276416 == some .gt) = true) (E3 : floatBits .sub .f64 4602678819172646912 F2 = some F3) (E4 : floatBits .mul .f64 F3 4618760256179416344 = some Z) (E5 : floatBits .mul .f64 Z Z = some U) (P0 : Hid (Q 0 = 4607182418800017408)) (PN : Hid (∀ j, j < 8 → floatBits .mul .f64 U (Q j) = some (fop .mul .f64 U (Q j)) ∧ nn .f64 (fop .quo .f64 (fop .mul .f64 U (Q j)) (floatOfInt .f64 (cof j))) = false ∧ Q (j + 1) = fop .sub .f64 4607182418800017408 (fop .quo .f64 (fop .mul .f64 U (Q j)) (floatOfInt .f64 (cof j))) ∧ nn .f64 (Q (j + 1)) = false)) (V6 : Hid (floatBits .mul .f64 Z (Q 8) = some V)) (w : World) : Calls Try.prog 126 #[.float .f64 y] w (fun e w' => e = .returned (.float .f64 (Op.negFloat .f64 V)) ∧ ∃ n, w' = w.drewN n) := by
  have CV := fun w => run_convert_float_int (P := Try.prog) w 26 2 .f64 .i64 y n (by rw [Try.underlying26]; rfl) Try.underlying2 N1
  go_enter Try.func126, Try.ntmps126
  go_wp2_with (refine wpList_farith rfl _ _ _ _ _ rfl rfl _ _ _ rfl rfl ?_; intro q jq gq; have fq := Lib.hid gq; clear gq; refine Stop.go ?_)
  refine Stop.mk ?_
  have sq := (SF.out q fq.out).1
  have sq' := (SF.out q fq.out).2
  go_wp2_with (refine wpList_fex rfl _ _ _ _ _ rfl _ _ _ rfl rfl _ (by assumption) ?_)
  go_loopw [7, 8] (fun p k wr => ∃ (j pv nq : Nat), k = .int .i64 (8 - (j : Int)) ∧ j ≤ 8 ∧ p = .float .f64 pv ∧ wr = w.drewN nq ∧ Hid (pv = Q j)) (fun _ k _ => (intOf k).toNat)
  case atStart => exact ⟨0, 4607182418800017408, jq, rfl, by omega, rfl, rfl, Lib.hid P0.out.symm⟩
  case round =>
    obtain ⟨j, pv, nq, rfl, hj, rfl, rfl, hc⟩ := hrel
    by_cases hk : j < 8
    · have JK := Lib.hid hk
      go_wp2_with (refine wpList_farith rfl _ _ _ _ _ rfl rfl _ _ _ rfl rfl ?_; intro r0 j0 g0; have f0 := Lib.hid g0; clear g0; refine Stop.go ?_)
      refine Stop.mk ?_
      go_wp2_with (refine wpList_farith rfl _ _ _ _ _ rfl rfl _ _ _ rfl rfl ?_; intro r1 j1 g1; have f1 := Lib.hid g1; clear g1; refine Stop.go ?_)
      refine Stop.mk ?_
      go_wp2_with (refine wpList_farith rfl _ _ _ _ _ rfl rfl _ _ _ rfl rfl ?_; intro r2 j2 g2; have f2 := Lib.hid g2; clear g2; refine Stop.go ?_)
      refine Stop.mk ?_
      go_wp2
      go_roundw
      case rel =>
        have f0' := f0.out; rw [hc.out] at f0'
        exact ⟨j + 1, r2, _, by go_num, by omega, rfl, rfl, Lib.hid (sn_step (PN.out j JK.out) f0' f1.out f2.out (by have hk := JK.out; rcases (show j = 0 ∨ j = 1 ∨ j = 2 ∨ j = 3 ∨ j = 4 ∨ j = 5 ∨ j = 6 ∨ j = 7 by omega) with rfl | rfl | rfl | rfl | rfl | rfl | rfl | rfl <;> decide +kernel))⟩
      case measure => simp [intOf]; omega
    · have ej : j = 8 := by omega
      subst ej
      have e8 := hc.out
      subst e8
      have E6 := V6.out
      go_wp2_with (refine wpList_fex rfl _ _ _ _ _ rfl _ _ _ rfl rfl _ (by assumption) ?_)
      go_ret
      exact ⟨rfl, _, rfl⟩

set_option maxRecDepth 20000 in
set_option maxHeartbeats 800000 in
theorem implSin000 (F Z U V : Nat) (Q : Nat → Nat) (y : Nat) (PA : Hid (∀ w, Calls Try.prog 164 #[.float .f64 y] w fun e w' => e = .returned (.float .f64 F) ∧ w = w')) (O2 : (FloatKind.f64.format.order F 4602678819172646912 == some .gt || FloatKind.f64.format.order F 4602678819172646912 == some .eq) = false) (O3 : (FloatKind.f64.format.order F 4598175219545276416 == some .gt) = false) (E4 : floatBits .mul .f64 F 4618760256179416344 = some Z) (E5 : floatBits .mul .f64 Z Z = some U) (P0 : Hid (Q 0 = 4607182418800017408)) (PN : Hid (∀ j, j < 8 → floatBits .mul .f64 U (Q j) = some (fop .mul .f64 U (Q j)) ∧ nn .f64 (fop .quo .f64 (fop .mul .f64 U (Q j)) (floatOfInt .f64 (cof j))) = false ∧ Q (j + 1) = fop .sub .f64 4607182418800017408 (fop .quo .f64 (fop .mul .f64 U (Q j)) (floatOfInt .f64 (cof j))) ∧ nn .f64 (Q (j + 1)) = false)) (V6 : Hid (floatBits .mul .f64 Z (Q 8) = some V)) (w : World) : Calls Try.prog 128 #[.float .f64 y] w (fun e w' => e = .returned (.float .f64 V) ∧ ∃ n, w' = w.drewN n) := by
  go_enter Try.func128, Try.ntmps128
  go_wp2_with fail
  refine (PA.out _).mono ?_
  rintro e w' ⟨rfl, rfl⟩
  go_wp2_with (refine wpList_fex rfl _ _ _ _ _ rfl _ _ _ rfl rfl _ (by assumption) ?_)
  go_loopw [7, 8] (fun p k wr => ∃ (j pv nq : Nat), k = .int .i64 (8 - (j : Int)) ∧ j ≤ 8 ∧ p = .float .f64 pv ∧ wr = w.drewN nq ∧ Hid (pv = Q j)) (fun _ k _ => (intOf k).toNat)
  case atStart => exact ⟨0, 4607182418800017408, 0, rfl, by omega, rfl, rfl, Lib.hid P0.out.symm⟩
  case round =>
    obtain ⟨j, pv, nq, rfl, hj, rfl, rfl, hc⟩ := hrel
    by_cases hk : j < 8
    · have JK := Lib.hid hk
      go_wp2_with (refine wpList_farith rfl _ _ _ _ _ rfl rfl _ _ _ rfl rfl ?_; intro r0 j0 g0; have f0 := Lib.hid g0; clear g0; refine Stop.go ?_)
      refine Stop.mk ?_
      go_wp2_with (refine wpList_farith rfl _ _ _ _ _ rfl rfl _ _ _ rfl rfl ?_; intro r1 j1 g1; have f1 := Lib.hid g1; clear g1; refine Stop.go ?_)
      refine Stop.mk ?_
      go_wp2_with (refine wpList_farith rfl _ _ _ _ _ rfl rfl _ _ _ rfl rfl ?_; intro r2 j2 g2; have f2 := Lib.hid g2; clear g2; refine Stop.go ?_)
      refine Stop.mk ?_
      go_wp2
      go_roundw
      case rel =>
        have f0' := f0.out; rw [hc.out] at f0'
        exact ⟨j + 1, r2, _, by go_num, by omega, rfl, rfl, Lib.hid (sn_step (PN.out j JK.out) f0' f1.out f2.out (by have hk := JK.out; rcases (show j = 0 ∨ j = 1 ∨ j = 2 ∨ j = 3 ∨ j = 4 ∨ j = 5 ∨ j = 6 ∨ j = 7 by omega) with rfl | rfl | rfl | rfl | rfl | rfl | rfl | rfl <;> decide +kernel))⟩
      case measure => simp [intOf]; omega
    · have ej : j = 8 := by omega
      subst ej
      have e8 := hc.out
      subst e8
      have E6 := V6.out
      go_wp2_with (refine wpList_fex rfl _ _ _ _ _ rfl _ _ _ rfl rfl _ (by assumption) ?_)
      go_ret
      exact ⟨rfl, _, rfl⟩

set_option maxRecDepth 20000 in
set_option maxHeartbeats 800000 in
theorem implSin001 (F F3 Z U V : Nat) (Q : Nat → Nat) (y : Nat) (PA : Hid (∀ w, Calls Try.prog 164 #[.float .f64 y] w fun e w' => e = .returned (.float .f64 F) ∧ w = w')) (O2 : (FloatKind.f64.format.order F 4602678819172646912 == some .gt || FloatKind.f64.format.order F 4602678819172646912 == some .eq) = false) (O3 : (FloatKind.f64.format.order F 4598175219545276416 == some .gt) = true) (E3 : floatBits .sub .f64 4602678819172646912 F = some F3) (E4 : floatBits .mul .f64 F3 4618760256179416344 = some Z) (E5 : floatBits .mul .f64 Z Z = some U) (P0 : Hid (Q 0 = 4607182418800017408)) (PN : Hid (∀ j, j < 8 → floatBits .mul .f64 U (Q j) = some (fop .mul .f64 U (Q j)) ∧ nn .f64 (fop .quo .f64 (fop .mul .f64 U (Q j)) (floatOfInt .f64 (cof j))) = false ∧ Q (j + 1) = fop .sub .f64 4607182418800017408 (fop .quo .f64 (fop .mul .f64 U (Q j)) (floatOfInt .f64 (cof j))) ∧ nn .f64 (Q (j + 1)) = false)) (V6 : Hid (floatBits .mul .f64 Z (Q 8) = some V)) (w : World) : Calls Try.prog 128 #[.float .f64 y] w (fun e w' => e = .returned (.float .f64 V) ∧ ∃ n, w' = w.drewN n) := by
  go_enter Try.func128, Try.ntmps128
  go_wp2_with fail
  refine (PA.out _).mono ?_
  rintro e w' ⟨rfl, rfl⟩
  go_wp2_with (refine wpList_fex rfl _ _ _ _ _ rfl _ _ _ rfl rfl _ (by assumption) ?_)
  go_loopw [7, 8] (fun p k wr => ∃ (j pv nq : Nat), k = .int .i64 (8 - (j : Int)) ∧ j ≤ 8 ∧ p = .float .f64 pv ∧ wr = w.drewN nq ∧ Hid (pv = Q j)) (fun _ k _ => (intOf k).toNat)
  case atStart => exact ⟨0, 4607182418800017408, 0, rfl, by omega, rfl, rfl, Lib.hid P0.out.symm⟩
  case round =>
    obtain ⟨j, pv, nq, rfl, hj, rfl, rfl, hc⟩ := hrel
    by_cases hk : j < 8
    · have JK := Lib.hid hk
      go_wp2_with (refine wpList_farith rfl _ _ _ _ _ rfl rfl _ _ _ rfl rfl ?_; intro r0 j0 g0; have f0 := Lib.hid g0; clear g0; refine Stop.go ?_)
      refine Stop.mk ?_
      go_wp2_with (refine wpList_farith rfl _ _ _ _ _ rfl rfl _ _ _ rfl rfl ?_; intro r1 j1 g1; have f1 := Lib.hid g1; clear g1; refine Stop.go ?_)
      refine Stop.mk ?_
      go_wp2_with (refine wpList_farith rfl _ _ _ _ _ rfl rfl _ _ _ rfl rfl ?_; intro r2 j2 g2; have f2 := Lib.hid g2; clear g2; refine Stop.go ?_)
      refine Stop.mk ?_
      go_wp2
      go_roundw
      case rel =>
        have f0' := f0.out; rw [hc.out] at f0'
        exact ⟨j + 1, r2, _, by go_num, by omega, rfl, rfl, Lib.hid (sn_step (PN.out j JK.out) f0' f1.out f2.out (by have hk := JK.out; rcases (show j = 0 ∨ j = 1 ∨ j = 2 ∨ j = 3 ∨ j = 4 ∨ j = 5 ∨ j = 6 ∨ j = 7 by omega) with rfl | rfl | rfl | rfl | rfl | rfl | rfl | rfl <;> decide +kernel))⟩
      case measure => simp [intOf]; omega
    · have ej : j = 8 := by omega
      subst ej
      have e8 := hc.out
      subst e8
      have E6 := V6.out
      go_wp2_with (refine wpList_fex rfl _ _ _ _ _ rfl _ _ _ rfl rfl _ (by assumption) ?_)
      go_ret
      exact ⟨rfl, _, rfl⟩

set_option maxRecDepth 20000 in
set_option maxHeartbeats 800000 in
theorem implSin010 (F F2 Z U V : Nat) (Q : Nat → Nat) (y : Nat) (PA : Hid (∀ w, Calls Try.prog 164 #[.float .f64 y] w fun e w' => e = .returned (.float .f64 F) ∧ w = w')) (O2 : (FloatKind.f64.format.order F 4602678819172646912 == some .gt || FloatKind.f64.format.order F 4602678819172646912 == some .eq) = true) (E2 : floatBits .sub .f64 F 4602678819172646912 = some F2) (O3 : (FloatKind.f64.format.order F2 4598175219545276416 == some .gt) = false) (E4 : floatBits .mul .f64 F2 4618760256179416344 = some Z) (E5 : floatBits .mul .f64 Z Z = some U) (P0 : Hid (Q 0 = 4607182418800017408)) (PN : Hid (∀ j, j < 8 → floatBits .mul .f64 U (Q j) = some (fop .mul .f64 U (Q j)) ∧ nn .f64 (fop .quo .f64 (fop .mul .f64 U (Q j)) (floatOfInt .f64 (cof j))) = false ∧ Q (j + 1) = fop .sub .f64 4607182418800017408 (fop .quo .f64 (fop .mul .f64 U (Q j)) (floatOfInt .f64 (cof j))) ∧ nn .f64 (Q (j + 1)) = false)) (V6 : Hid (floatBits .mul .f64 Z (Q 8) = some V)) (w : World) : Calls Try.prog 128 #[.float .f64 y] w (fun e w' => e = .returned (.float .f64 (Op.negFloat .f64 V)) ∧ ∃ n, w' = w.drewN n) := by
  go_enter Try.func128, Try.ntmps128
  go_wp2_with fail
  refine (PA.out _).mono ?_
  rintro e w' ⟨rfl, rfl⟩
  go_wp2_with (refine wpList_fex rfl _ _ _ _ _ rfl _ _ _ rfl rfl _ (by assumption) ?_)
  go_loopw [7, 8] (fun p k wr => ∃ (j pv nq : Nat), k = .int .i64 (8 - (j : Int)) ∧ j ≤ 8 ∧ p = .float .f64 pv ∧ wr = w.drewN nq ∧ Hid (pv = Q j)) (fun _ k _ => (intOf k).toNat)
  case atStart => exact ⟨0, 4607182418800017408, 0, rfl, by omega, rfl, rfl, Lib.hid P0.out.symm⟩
  case round =>
    obtain ⟨j, pv, nq, rfl, hj, rfl, rfl, hc⟩ := hrel
    by_cases hk : j < 8
    · have JK := Lib.hid hk
      go_wp2_with (refine wpList_farith rfl _ _ _ _ _ rfl rfl _ _ _ rfl rfl ?_; intro r0 j0 g0; have f0 := Lib.hid g0; clear g0; refine Stop.go ?_)
      refine Stop.mk ?_
      go_wp2_with (refine wpList_farith rfl _ _ _ _ _ rfl rfl _ _ _ rfl rfl ?_; intro r1 j1 g1; have f1 := Lib.hid g1; clear g1; refine Stop.go ?_)
      refine Stop.mk ?_
      go_wp2_with (refine wpList_farith rfl _ _ _ _ _ rfl rfl _ _ _ rfl rfl ?_; intro r2 j2 g2; have f2 := Lib.hid g2; clear g2; refine Stop.go ?_)
      refine Stop.mk ?_
      go_wp2
      go_roundw
      case rel =>
        have f0' := f0.out; rw [hc.out] at f0'
        exact ⟨j + 1, r2, _, by go_num, by omega, rfl, rfl, Lib.hid (sn_step (PN.out j JK.out) f0' f1.out f2.out (by have hk := JK.out; rcases (show j = 0 ∨ j = 1 ∨ j = 2 ∨ j = 3 ∨ j = 4 ∨ j = 5 ∨ j = 6 ∨ j = 7 by omega) with rfl | rfl | rfl | rfl | rfl | rfl | rfl | rfl <;> decide +kernel))⟩
      case measure => simp [intOf]; omega
    · have ej : j = 8 := by omega
      subst ej
      have e8 := hc.out
      subst e8
      have E6 := V6.out
      go_wp2_with (refine wpList_fex rfl _ _ _ _ _ rfl _ _ _ rfl rfl _ (by assumption) ?_)
      go_ret
      exact ⟨rfl, _, rfl⟩

set_option maxRecDepth 20000 in
set_option maxHeartbeats 800000 in
theorem implSin011 (F F2 F3 Z U V : Nat) (Q : Nat → Nat) (y : Nat) (PA : Hid (∀ w, Calls Try.prog 164 #[.float .f64 y] w fun e w' => e = .returned (.float .f64 F) ∧ w = w')) (O2 : (FloatKind.f64.format.order F 4602678819172646912 == some .gt || FloatKind.f64.format.order F 4602678819172646912 == some .eq) = true) (E2 : floatBits .sub .f64 F 4602678819172646912 = some F2) (O3 : (FloatKind.f64.format.order F2 4598175219545276416 == some .gt) = true) (E3 : floatBits .sub .f64 4602678819172646912 F2 = some F3) (E4 : floatBits .mul .f64 F3 4618760256179416344 = some Z) (E5 : floatBits .mul .f64 Z Z = some U) (P0 : Hid (Q 0 = 4607182418800017408)) (PN : Hid (∀ j, j < 8 → floatBits .mul .f64 U (Q j) = some (fop .mul .f64 U (Q j)) ∧ nn .f64 (fop .quo .f64 (fop .mul .f64 U (Q j)) (floatOfInt .f64 (cof j))) = false ∧ Q (j + 1) = fop .sub .f64 4607182418800017408 (fop .quo .f64 (fop .mul .f64 U (Q j)) (floatOfInt .f64 (cof j))) ∧ nn .f64 (Q (j + 1)) = false)) (V6 : Hid (floatBits .mul .f64 Z (Q 8) = some V)) (w : World) : Calls Try.prog 128 #[.float .f64 y] w (fun e w' => e = .returned (.float .f64 (Op.negFloat .f64 V)) ∧ ∃ n, w' = w.drewN n) := by
  go_enter Try.func128, Try.ntmps128
  go_wp2_with fail
  refine (PA.out _).mono ?_
  rintro e w' ⟨rfl, rfl⟩
  go_wp2_with (refine wpList_fex rfl _ _ _ _ _ rfl _ _ _ rfl rfl _ (by assumption) ?_)
  go_loopw [7, 8] (fun p k wr => ∃ (j pv nq : Nat), k = .int .i64 (8 - (j : Int)) ∧ j ≤ 8 ∧ p = .float .f64 pv ∧ wr = w.drewN nq ∧ Hid (pv = Q j)) (fun _ k _ => (intOf k).toNat)
  case atStart => exact ⟨0, 4607182418800017408, 0, rfl, by omega, rfl, rfl, Lib.hid P0.out.symm⟩
  case round =>
    obtain ⟨j, pv, nq, rfl, hj, rfl, rfl, hc⟩ := hrel
    by_cases hk : j < 8
    · have JK := Lib.hid hk
      go_wp2_with (refine wpList_farith rfl _ _ _ _ _ rfl rfl _ _ _ rfl rfl ?_; intro r0 j0 g0; have f0 := Lib.hid g0; clear g0; refine Stop.go ?_)
      refine Stop.mk ?_
      go_wp2_with (refine wpList_farith rfl _ _ _ _ _ rfl rfl _ _ _ rfl rfl ?_; intro r1 j1 g1; have f1 := Lib.hid g1; clear g1; refine Stop.go ?_)
      refine Stop.mk ?_
      go_wp2_with (refine wpList_farith rfl _ _ _ _ _ rfl rfl _ _ _ rfl rfl ?_; intro r2 j2 g2; have f2 := Lib.hid g2; clear g2; refine Stop.go ?_)
      refine Stop.mk ?_
      go_wp2
      go_roundw
      case rel =>
        have f0' := f0.out; rw [hc.out] at f0'
        exact ⟨j + 1, r2, _, by go_num, by omega, rfl, rfl, Lib.hid (sn_step (PN.out j JK.out) f0' f1.out f2.out (by have hk := JK.out; rcases (show j = 0 ∨ j = 1 ∨ j = 2 ∨ j = 3 ∨ j = 4 ∨ j = 5 ∨ j = 6 ∨ j = 7 by omega) with rfl | rfl | rfl | rfl | rfl | rfl | rfl | rfl <;> decide +kernel))⟩
      case measure => simp [intOf]; omega
    · have ej : j = 8 := by omega
      subst ej
      have e8 := hc.out
      subst e8
      have E6 := V6.out
      go_wp2_with (refine wpList_fex rfl _ _ _ _ _ rfl _ _ _ rfl rfl _ (by assumption) ?_)
      go_ret
      exact ⟨rfl, _, rfl⟩

set_option maxRecDepth 20000 in
set_option maxHeartbeats 800000 in
theorem implSin100 (F1 Z U V : Nat) (Q : Nat → Nat) (y : Nat) (PA : Hid (∀ w, Calls Try.prog 164 #[.float .f64 y] w fun e w' => e = .returned (.float .f64 F1) ∧ w = w')) (O2 : (FloatKind.f64.format.order F1 4602678819172646912 == some .gt || FloatKind.f64.format.order F1 4602678819172646912 == some .eq) = false) (O3 : (FloatKind.f64.format.order F1 4598175219545276416 == some .gt) = false) (E4 : floatBits .mul .f64 F1 4618760256179416344 = some Z) (E5 : floatBits .mul .f64 Z Z = some U) (P0 : Hid (Q 0 = 4607182418800017408)) (PN : Hid (∀ j, j < 8 → floatBits .mul .f64 U (Q j) = some (fop .mul .f64 U (Q j)) ∧ nn .f64 (fop .quo .f64 (fop .mul .f64 U (Q j)) (floatOfInt .f64 (cof j))) = false ∧ Q (j + 1) = fop .sub .f64 4607182418800017408 (fop .quo .f64 (fop .mul .f64 U (Q j)) (floatOfInt .f64 (cof j))) ∧ nn .f64 (Q (j + 1)) = false)) (V6 : Hid (floatBits .mul .f64 Z (Q 8) = some V)) (w : World) : Calls Try.prog 128 #[.float .f64 y] w (fun e w' => e = .returned (.float .f64 V) ∧ ∃ n, w' = w.drewN n) := by
  go_enter Try.func128, Try.ntmps128
  go_wp2_with fail
  refine (PA.out _).mono ?_
  rintro e w' ⟨rfl, rfl⟩
  go_wp2_with (refine wpList_fex rfl _ _ _ _ _ rfl _ _ _ rfl rfl _ (by assumption) ?_)
  go_loopw [7, 8] (fun p k wr => ∃ (j pv nq : Nat), k = .int .i64 (8 - (j : Int)) ∧ j ≤ 8 ∧ p = .float .f64 pv ∧ wr = w.drewN nq ∧ Hid (pv = Q j)) (fun _ k _ => (intOf k).toNat)
  case atStart => exact ⟨0, 4607182418800017408, 0, rfl, by omega, rfl, rfl, Lib.hid P0.out.symm⟩
  case round =>
    obtain ⟨j, pv, nq, rfl, hj, rfl, rfl, hc⟩ := hrel
    by_cases hk : j < 8
    · have JK := Lib.hid hk
      go_wp2_with (refine wpList_farith rfl _ _ _ _ _ rfl rfl _ _ _ rfl rfl ?_; intro r0 j0 g0; have f0 := Lib.hid g0; clear g0; refine Stop.go ?_)
      refine Stop.mk ?_
      go_wp2_with (refine wpList_farith rfl _ _ _ _ _ rfl rfl _ _ _ rfl rfl ?_; intro r1 j1 g1; have f1 := Lib.hid g1; clear g1; refine Stop.go ?_)
      refine Stop.mk ?_
      go_wp2_with (refine wpList_farith rfl _ _ _ _ _ rfl rfl _ _ _ rfl rfl ?_; intro r2 j2 g2; have f2 := Lib.hid g2; clear g2; refine Stop.go ?_)
      refine Stop.mk ?_
      go_wp2
      go_roundw
      case rel =>
        have f0' := f0.out; rw [hc.out] at f0'
        exact ⟨j + 1, r2, _, by go_num, by omega, rfl, rfl, Lib.hid (sn_step (PN.out j JK.out) f0' f1.out f2.out (by have hk := JK.out; rcases (show j = 0 ∨ j = 1 ∨ j = 2 ∨ j = 3 ∨ j = 4 ∨ j = 5 ∨ j = 6 ∨ j = 7 by omega) with rfl | rfl | rfl | rfl | rfl | rfl | rfl | rfl <;> decide +kernel))⟩
      case measure => simp [intOf]; omega
    · have ej : j = 8 := by omega
      subst ej
      have e8 := hc.out
      subst e8
      have E6 := V6.out
      go_wp2_with (refine wpList_fex rfl _ _ _ _ _ rfl _ _ _ rfl rfl _ (by assumption) ?_)
      go_ret
      exact ⟨rfl, _, rfl⟩

set_option maxRecDepth 20000 in
set_option maxHeartbeats 800000 in
theorem implSin101 (F1 F3 Z U V : Nat) (Q : Nat → Nat) (y : Nat) (PA : Hid (∀ w, Calls Try.prog 164 #[.float .f64 y] w fun e w' => e = .returned (.float .f64 F1) ∧ w = w')) (O2 : (FloatKind.f64.format.order F1 4602678819172646912 == some .gt || FloatKind.f64.format.order F1 4602678819172646912 == some .eq) = false) (O3 : (FloatKind.f64.format.order F1 4598175219545276416 == some .gt) = true) (E3 : floatBits .sub .f64 4602678819172646912 F1 = some F3) (E4 : floatBits .mul .f64 F3 4618760256179416344 = some Z) (E5 : floatBits .mul .f64 Z Z = some U) (P0 : Hid (Q 0 = 4607182418800017408)) (PN : Hid (∀ j, j < 8 → floatBits .mul .f64 U (Q j) = some (fop .mul .f64 U (Q j)) ∧ nn .f64 (fop .quo .f64 (fop .mul .f64 U (Q j)) (floatOfInt .f64 (cof j))) = false ∧ Q (j + 1) = fop .sub .f64 4607182418800017408 (fop .quo .f64 (fop .mul .f64 U (Q j)) (floatOfInt .f64 (cof j))) ∧ nn .f64 (Q (j + 1)) = false)) (V6 : Hid (floatBits .mul .f64 Z (Q 8) = some V)) (w : World) : Calls Try.prog 128 #[.float .f64 y] w (fun e w' => e = .returned (.float .f64 V) ∧ ∃ n, w' = w.drewN n) := by
  go_enter Try.func128, Try.ntmps128
  go_wp2_with fail
  refine (PA.out _).mono ?_
  rintro e w' ⟨rfl, rfl⟩
  go_wp2_with (refine wpList_fex rfl _ _ _ _ _ rfl _ _ _ rfl rfl _ (by assumption) ?_)
  go_loopw [7, 8] (fun p k wr => ∃ (j pv nq : Nat), k = .int .i64 (8 - (j : Int)) ∧ j ≤ 8 ∧ p = .float .f64 pv ∧ wr = w.drewN nq ∧ Hid (pv = Q j)) (fun _ k _ => (intOf k).toNat)
  case atStart => exact ⟨0, 4607182418800017408, 0, rfl, by omega, rfl, rfl, Lib.hid P0.out.symm⟩
  case round =>
    obtain ⟨j, pv, nq, rfl, hj, rfl, rfl, hc⟩ := hrel
    by_cases hk : j < 8
    · have JK := Lib.hid hk
      go_wp2_with (refine wpList_farith rfl _ _ _ _ _ rfl rfl _ _ _ rfl rfl ?_; intro r0 j0 g0; have f0 := Lib.hid g0; clear g0; refine Stop.go ?_)
      refine Stop.mk ?_
      go_wp2_with (refine wpList_farith rfl _ _ _ _ _ rfl rfl _ _ _ rfl rfl ?_; intro r1 j1 g1; have f1 := Lib.hid g1; clear g1; refine Stop.go ?_)
      refine Stop.mk ?_
      go_wp2_with (refine wpList_farith rfl _ _ _ _ _ rfl rfl _ _ _ rfl rfl ?_; intro r2 j2 g2; have f2 := Lib.hid g2; clear g2; refine Stop.go ?_)
      refine Stop.mk ?_
      go_wp2
      go_roundw
      case rel =>
        have f0' := f0.out; rw [hc.out] at f0'
        exact ⟨j + 1, r2, _, by go_num, by omega, rfl, rfl, Lib.hid (sn_step (PN.out j JK.out) f0' f1.out f2.out (by have hk := JK.out; rcases (show j = 0 ∨ j = 1 ∨ j = 2 ∨ j = 3 ∨ j = 4 ∨ j = 5 ∨ j = 6 ∨ j = 7 by omega) with rfl | rfl | rfl | rfl | rfl | rfl | rfl | rfl <;> decide +kernel))⟩
      case measure => simp [intOf]; omega
    · have ej : j = 8 := by omega
      subst ej
      have e8 := hc.out
      subst e8
      have E6 := V6.out
      go_wp2_with (refine wpList_fex rfl _ _ _ _ _ rfl _ _ _ rfl rfl _ (by assumption) ?_)
      go_ret
      exact ⟨rfl, _, rfl⟩

set_option maxRecDepth 20000 in
set_option maxHeartbeats 800000 in
theorem implSin110 (F1 F2 Z U V : Nat) (Q : Nat → Nat) (y : Nat) (PA : Hid (∀ w, Calls Try.prog 164 #[.float .f64 y] w fun e w' => e = .returned (.float .f64 F1) ∧ w = w')) (O2 : (FloatKind.f64.format.order F1 4602678819172646912 == some .gt || FloatKind.f64.format.order F1 4602678819172646912 == some .eq) = true) (E2 : floatBits .sub .f64 F1 4602678819172646912 = some F2) (O3 : (FloatKind.f64.format.order F2 4598175219545276416 == some .gt) = false) (E4 : floatBits .mul .f64 F2 4618760256179416344 = some Z) (E5 : floatBits .mul .f64 Z Z = some U) (P0 : Hid (Q 0 = 4607182418800017408)) (PN : Hid (∀ j, j < 8 → floatBits .mul .f64 U (Q j) = some (fop .mul .f64 U (Q j)) ∧ nn .f64 (fop .quo .f64 (fop .mul .f64 U (Q j)) (floatOfInt .f64 (cof j))) = false ∧ Q (j + 1) = fop .sub .f64 4607182418800017408 (fop .quo .f64 (fop .mul .f64 U (Q j)) (floatOfInt .f64 (cof j))) ∧ nn .f64 (Q (j + 1)) = false)) (V6 : Hid (floatBits .mul .f64 Z (Q 8) = some V)) (w : World) : Calls Try.prog 128 #[.float .f64 y] w (fun e w' => e = .returned (.float .f64 (Op.negFloat .f64 V)) ∧ ∃ n, w' = w.drewN n) := by
  go_enter Try.func128, Try.ntmps128
  go_wp2_with fail
  refine (PA.out _).mono ?_
  rintro e w' ⟨rfl, rfl⟩
  go_wp2_with (refine wpList_fex rfl _ _ _ _ _ rfl _ _ _ rfl rfl _ (by assumption) ?_)
  go_loopw [7, 8] (fun p k wr => ∃ (j pv nq : Nat), k = .int .i64 (8 - (j : Int)) ∧ j ≤ 8 ∧ p = .float .f64 pv ∧ wr = w.drewN nq ∧ Hid (pv = Q j)) (fun _ k _ => (intOf k).toNat)
  case atStart => exact ⟨0, 4607182418800017408, 0, rfl, by omega, rfl, rfl, Lib.hid P0.out.symm⟩
  case round =>
    obtain ⟨j, pv, nq, rfl, hj, rfl, rfl, hc⟩ := hrel
    by_cases hk : j < 8
    · have JK := Lib.hid hk
      go_wp2_with (refine wpList_farith rfl _ _ _ _ _ rfl rfl _ _ _ rfl rfl ?_; intro r0 j0 g0; have f0 := Lib.hid g0; clear g0; refine Stop.go ?_)
      refine Stop.mk ?_
      go_wp2_with (refine wpList_farith rfl _ _ _ _ _ rfl rfl _ _ _ rfl rfl ?_; intro r1 j1 g1; have f1 := Lib.hid g1; clear g1; refine Stop.go ?_)
      refine Stop.mk ?_
      go_wp2_with (refine wpList_farith rfl _ _ _ _ _ rfl rfl _ _ _ rfl rfl ?_; intro r2 j2 g2; have f2 := Lib.hid g2; clear g2; refine Stop.go ?_)
      refine Stop.mk ?_
      go_wp2
      go_roundw
      case rel =>
        have f0' := f0.out; rw [hc.out] at f0'
        exact ⟨j + 1, r2, _, by go_num, by omega, rfl, rfl, Lib.hid (sn_step (PN.out j JK.out) f0' f1.out f2.out (by have hk := JK.out; rcases (show j = 0 ∨ j = 1 ∨ j = 2 ∨ j = 3 ∨ j = 4 ∨ j = 5 ∨ j = 6 ∨ j = 7 by omega) with rfl | rfl | rfl | rfl | rfl | rfl | rfl | rfl <;> decide +kernel))⟩
      case measure => simp [intOf]; omega
    · have ej : j = 8 := by omega
      subst ej
      have e8 := hc.out
      subst e8
      have E6 := V6.out
      go_wp2_with (refine wpList_fex rfl _ _ _ _ _ rfl _ _ _ rfl rfl _ (by assumption) ?_)
      go_ret
      exact ⟨rfl, _, rfl⟩

set_option maxRecDepth 20000 in
set_option maxHeartbeats 800000 in
theorem implSin111 (F1 F2 F3 Z U V : Nat) (Q : Nat → Nat) (y : Nat) (PA : Hid (∀ w, Calls Try.prog 164 #[.float .f64 y] w fun e w' => e = .returned (.float .f64 F1) ∧ w = w')) (O2 : (FloatKind.f64.format.order F1 4602678819172646912 == some .gt || FloatKind.f64.format.order F1 4602678819172646912 == some .eq) = true) (E2 : floatBits .sub .f64 F1 4602678819172646912 = some F2) (O3 : (FloatKind.f64.format.order F2 4598175219545276416 == some .gt) = true) (E3 : floatBits .sub .f64 4602678819172646912 F2 = some F3) (E4 : floatBits .mul .f64 F3 4618760256179416344 = some Z) (E5 : floatBits .mul .f64 Z Z = some U) (P0 : Hid (Q 0 = 4607182418800017408)) (PN : Hid (∀ j, j < 8 → floatBits .mul .f64 U (Q j) = some (fop .mul .f64 U (Q j)) ∧ nn .f64 (fop .quo .f64 (fop .mul .f64 U (Q j)) (floatOfInt .f64 (cof j))) = false ∧ Q (j + 1) = fop .sub .f64 4607182418800017408 (fop .quo .f64 (fop .mul .f64 U (Q j)) (floatOfInt .f64 (cof j))) ∧ nn .f64 (Q (j + 1)) = false)) (V6 : Hid (floatBits .mul .f64 Z (Q 8) = some V)) (w : World) : Calls Try.prog 128 #[.float .f64 y] w (fun e w' => e = .returned (.float .f64 (Op.negFloat .f64 V)) ∧ ∃ n, w' = w.drewN n) := by
  go_enter Try.func128, Try.ntmps128
  go_wp2_with fail
  refine (PA.out _).mono ?_
  rintro e w' ⟨rfl, rfl⟩
  go_wp2_with (refine wpList_fex rfl _ _ _ _ _ rfl _ _ _ rfl rfl _ (by assumption) ?_)
  go_loopw [7, 8] (fun p k wr => ∃ (j pv nq : Nat), k = .int .i64 (8 - (j : Int)) ∧ j ≤ 8 ∧ p = .float .f64 pv ∧ wr = w.drewN nq ∧ Hid (pv = Q j)) (fun _ k _ => (intOf k).toNat)
  case atStart => exact ⟨0, 4607182418800017408, 0, rfl, by omega, rfl, rfl, Lib.hid P0.out.symm⟩
  case round =>
    obtain ⟨j, pv, nq, rfl, hj, rfl, rfl, hc⟩ := hrel
    by_cases hk : j < 8
    · have JK := Lib.hid hk
      go_wp2_with (refine wpList_farith rfl _ _ _ _ _ rfl rfl _ _ _ rfl rfl ?_; intro r0 j0 g0; have f0 := Lib.hid g0; clear g0; refine Stop.go ?_)
      refine Stop.mk ?_
      go_wp2_with (refine wpList_farith rfl _ _ _ _ _ rfl rfl _ _ _ rfl rfl ?_; intro r1 j1 g1; have f1 := Lib.hid g1; clear g1; refine Stop.go ?_)
      refine Stop.mk ?_
      go_wp2_with (refine wpList_farith rfl _ _ _ _ _ rfl rfl _ _ _ rfl rfl ?_; intro r2 j2 g2; have f2 := Lib.hid g2; clear g2; refine Stop.go ?_)
      refine Stop.mk ?_
      go_wp2
      go_roundw
      case rel =>
        have f0' := f0.out; rw [hc.out] at f0'
        exact ⟨j + 1, r2, _, by go_num, by omega, rfl, rfl, Lib.hid (sn_step (PN.out j JK.out) f0' f1.out f2.out (by have hk := JK.out; rcases (show j = 0 ∨ j = 1 ∨ j = 2 ∨ j = 3 ∨ j = 4 ∨ j = 5 ∨ j = 6 ∨ j = 7 by omega) with rfl | rfl | rfl | rfl | rfl | rfl | rfl | rfl <;> decide +kernel))⟩
      case measure => simp [intOf]; omega
    · have ej : j = 8 := by omega
      subst ej
      have e8 := hc.out
      subst e8
      have E6 := V6.out
      go_wp2_with (refine wpList_fex rfl _ _ _ _ _ rfl _ _ _ rfl rfl _ (by assumption) ?_)
      go_ret
      exact ⟨rfl, _, rfl⟩

end Go.Proofs.Ytlhjmkdfemejmaa
