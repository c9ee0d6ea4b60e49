/- Guesses: copies, equality, validity. -/
import Derived.Test.YtdemahghjgghkaaSnP
import Derived.Test.YtdemahghjgghkaaSnN
import Derived.Test.YtdemahghjgghkaaSnL
import Derived.Laws.ResultCell
namespace Go.Proofs.Ytdemahghjgghkaa
open Go.RowKit
set_option linter.unusedVariables false

def gsv (m s : Nat) : Bool := fin .f32 m && pos s
theorem gsv_cn {a b A B : Nat} (ha : cn .f32 a = A) (hb : cn .f32 b = B) : gsv a b = gsv A B := by
  unfold gsv pos gt0
  rw [← ha, ← hb, fin_cn, fin_cn]
  have : FloatKind.f32.format.order (cn .f32 b) 0 = FloatKind.f32.format.order b 0 := by rw [← order_cn .f32 (cn .f32 b) 0, cn_cn, order_cn]
  rw [this]
/-- a guess up to a not-a-number's bits, and a bool -/
def GsB (A B : Nat) (o : Bool) (w : World) (e : Ending) (w' : World) : Prop := ∃ a b, cn .f32 a = A ∧ cn .f32 b = B ∧ e = .returned (.tuple #[.agg #[.float .f32 a, .float .f32 b], .bool o]) ∧ Below w.heap.size w w'
/-- a guess that is handed back if it is one -/
def GsR (a b : Nat) (w : World) (e : Ending) (w' : World) : Prop := ∃ c d, c = (bif gsv a b then a else 0) ∧ d = (bif gsv a b then b else 0) ∧ e = .returned (.tuple #[.agg #[.float .f32 c, .float .f32 d], .bool (gsv a b)]) ∧ Below w.heap.size w w'
theorem gs_end {a b A B c d : Nat} (ha : cn .f32 a = A) (hb : cn .f32 b = B) (hc : c = (bif gsv a b then a else 0)) (hd : d = (bif gsv a b then b else 0)) : cn .f32 c = (bif gsv A B then A else 0) ∧ cn .f32 d = (bif gsv A B then B else 0) ∧ gsv a b = gsv A B := by
  have e := gsv_cn ha hb
  rw [e] at hc hd
  subst hc; subst hd
  cases hG : gsv A B
  · exact ⟨rfl, rfl, e.trans hG⟩
  · exact ⟨ha, hb, e.trans hG⟩

theorem toGuess_any (m s : Nat) (w : World) : Calls Try.prog 33 #[.agg #[.float .f32 m, .float .f32 s]] w fun e w' => e = .returned (.agg #[.float .f32 m, .float .f32 s]) ∧ Below w.heap.size w w' := by
  go_enter Try.func33, Try.ntmps33
  go_wp2
  refine bodyPost_ret (v := .agg #[.float .f32 m, .float .f32 s]) ?_ rfl ?_
  · rw [results_cell1 rfl]
    go_simp
  · exact ⟨rfl, (by repeat (first | exact Below.refl _ _ | refine Below.setCell ?_ (by first | exact Nat.le_refl _ | (simp; done) | (simp; omega) | omega) _ | refine below_drewN ?_ _ | refine Below.alloc ?_ (by first | exact Nat.le_refl _ | (simp; done) | (simp; omega) | omega) _))⟩
theorem eqGuess_any (a b c d : Nat) (h1 : cn .f32 a = cn .f32 c) (h2 : cn .f32 b = cn .f32 d) (w : World) : Calls Try.prog 35 #[.agg #[.float .f32 a, .float .f32 b], .agg #[.float .f32 c, .float .f32 d]] w (BolB true w) := by
  have H1 := Lib.hid h1
  have H2 := Lib.hid h2
  clear h1 h2
  go_enter Try.func35, Try.ntmps35
  go_wp2_with (first | (refine wpList_up rfl Try.underlying25 Try.underlying29 _ rfl _ rfl ?_; intro _ _ _) | (go_at_call 21; refine (same_end (a := a) (b := c) _ (by assumption) (by assumption) H1.out).mono ?_; rintro e w' ⟨rfl, m, rfl⟩) | (go_at_call 21; refine (same_end (a := b) (b := d) _ (by assumption) (by assumption) H2.out).mono ?_; rintro e w' ⟨rfl, m, rfl⟩))
  go_ret
  exact ⟨rfl, (by repeat (first | exact Below.refl _ _ | refine Below.setCell ?_ (by first | exact Nat.le_refl _ | (simp; done) | (simp; omega) | omega) _ | refine below_drewN ?_ _ | refine Below.alloc ?_ (by first | exact Nat.le_refl _ | (simp; done) | (simp; omega) | omega) _))⟩

theorem specGs_any (m s b : Nat) (w : World) (A : Cells w b [.float .f32 m, .float .f32 s]) : Calls Try.prog 63 #[.pointer (some ⟨b, 0, none⟩)] w (Bol (gsv m s) w) := by
  have c0 := A.at 0 rfl
  have c1 := A.at 1 rfl
  clear A
  unfold gsv
  cases B : fin .f32 m
  · have H := Lib.hid B
    clear B
    go_enter Try.func63, Try.ntmps63
    go_wp2_with fail
    refine (specFinite_any m _).mono ?_
    rw [H.out]
    rintro e w' ⟨rfl, n, rfl⟩
    go_wp2
    go_ret
    exact ⟨ret_bb (by simp), _, by first | rfl | simp only [World.drewN_drewN]⟩
  · have H := Lib.hid B
    clear B
    go_enter Try.func63, Try.ntmps63
    go_wp2_with fail
    refine (specFinite_any m _).mono ?_
    rw [H.out]
    rintro e w' ⟨rfl, n, rfl⟩
    go_wp2_with fail
    refine (specAbove_any s _).mono ?_
    rintro e w' ⟨rfl, n2, rfl⟩
    go_wp2
    go_ret
    exact ⟨ret_bb (by simp), _, by first | rfl | simp only [World.drewN_drewN]⟩
theorem implGs_any (m s : Nat) (w : World) : Calls Try.prog 66 #[.agg #[.float .f32 m, .float .f32 s]] w (BolB (gsv m s) w) := by
  unfold gsv
  cases B : fin .f32 m
  · have H := Lib.hid B
    clear B
    go_enter Try.func66, Try.ntmps66
    go_wp2_with fail
    refine (implFinite_any m _).mono ?_
    rw [H.out]
    rintro e w' ⟨rfl, n, rfl⟩
    go_wp2
    go_ret
    exact ⟨ret_bb (by simp), (by repeat (first | exact Below.refl _ _ | refine Below.setCell ?_ (by first | exact Nat.le_refl _ | (simp; done) | (simp; omega) | omega) _ | refine below_drewN ?_ _ | refine Below.alloc ?_ (by first | exact Nat.le_refl _ | (simp; done) | (simp; omega) | omega) _))⟩
  · have H := Lib.hid B
    clear B
    go_enter Try.func66, Try.ntmps66
    go_wp2_with fail
    refine (implFinite_any m _).mono ?_
    rw [H.out]
    rintro e w' ⟨rfl, n, rfl⟩
    go_wp2_with fail
    refine (implPos_any s _).mono ?_
    rintro e w' ⟨rfl, n2, rfl⟩
    go_wp2
    go_ret
    exact ⟨ret_bb (by simp), (by repeat (first | exact Below.refl _ _ | refine Below.setCell ?_ (by first | exact Nat.le_refl _ | (simp; done) | (simp; omega) | omega) _ | refine below_drewN ?_ _ | refine Below.alloc ?_ (by first | exact Nat.le_refl _ | (simp; done) | (simp; omega) | omega) _))⟩
set_option maxHeartbeats 800000 in
theorem specGsGive_any (a b : Nat) (w : World) : Calls Try.prog 65 #[.agg #[.float .f32 a, .float .f32 b]] w (GsR a b w) := by
  have A := Lib.hid ((Cells.made w [Value.float .f32 a, .float .f32 b] 42).al (.cells ([Value.float .f32 0, .float .f32 0]).toArray 42))
  have X := Cells.made (w.alloc (.cells ([Value.float .f32 a, .float .f32 b]).toArray 42)) [Value.float .f32 0, .float .f32 0] 42
  rw [show (w.alloc (.cells ([Value.float .f32 a, .float .f32 b]).toArray 42)).heap.size = w.heap.size + 1 from by simp] at X
  have X := Lib.hid X
  have Bw := Lib.hid (below_al2 w (.cells ([Value.float .f32 a, .float .f32 b]).toArray 42) (.cells ([Value.float .f32 0, .float .f32 0]).toArray 42))
  have FN := Lib.hid (fun (e : gsv a b = false) w1 (hb : Below w.heap.size w w1) => (show GsR a b w (.returned (.tuple #[.agg #[.float .f32 0, .float .f32 0], .bool false])) w1 from by unfold GsR; rw [e]; exact ⟨0, 0, rfl, rfl, rfl, hb⟩))
  have FY := Lib.hid (fun (e : gsv a b = true) w1 (hb : Below w.heap.size w w1) => (show GsR a b w (.returned (.tuple #[.agg #[.float .f32 a, .float .f32 b], .bool true])) w1 from by unfold GsR; rw [e]; exact ⟨a, b, rfl, rfl, rfl, hb⟩))
  cases G : gsv a b
  · skip
    have E := Lib.hid (FN.out G)
    have HG := Lib.hid G
    clear G FN FY
    go_enter Try.func65, Try.ntmps65
    go_wp2_with fail
    refine (specGs_any a b _ _ A.out).mono ?_
    rw [HG.out]
    rintro e w' ⟨rfl, n, rfl⟩
    have c0 := A.out.at 0 rfl
    have c1 := A.out.at 1 rfl
    have d0 := X.out.at 0 rfl
    have d1 := X.out.at 1 rfl
    have e0 := X.out.fz 0
    have e1 := X.out.fz 1
    go_wp2
    refine bodyPost_ret (v := .tuple #[.agg #[.float .f32 0, .float .f32 0], .bool false]) ?_ rfl ?_
    · rw [results_cell_tmp rfl]
      go_simp
    · exact E.out _ (by repeat (first | (with_reducible refine Below.setCell ?_ (by first | exact Nat.le_refl _ | (simp; done) | (simp; omega) | omega) _) | (with_reducible refine below_drewN ?_ _) | (with_reducible refine Below.drew ?_) | (with_reducible exact Bw.out) | (with_reducible exact Bp.out) | (with_reducible exact Below.refl _ _) | (with_reducible refine Below.alloc ?_ (by first | exact Nat.le_refl _ | (simp; done) | (simp; omega) | omega) _)))
  · skip
    have E := Lib.hid (FY.out G)
    have HG := Lib.hid G
    clear G FN FY
    go_enter Try.func65, Try.ntmps65
    go_wp2_with fail
    refine (specGs_any a b _ _ A.out).mono ?_
    rw [HG.out]
    rintro e w' ⟨rfl, n, rfl⟩
    have c0 := A.out.at 0 rfl
    have c1 := A.out.at 1 rfl
    have d0 := X.out.at 0 rfl
    have d1 := X.out.at 1 rfl
    have e0 := X.out.fz 0
    have e1 := X.out.fz 1
    go_wp2
    refine bodyPost_ret (v := .tuple #[.agg #[.float .f32 a, .float .f32 b], .bool true]) ?_ rfl ?_
    · rw [results_cell_tmp rfl]
      go_simp
    · exact E.out _ (by repeat (first | (with_reducible refine Below.setCell ?_ (by first | exact Nat.le_refl _ | (simp; done) | (simp; omega) | omega) _) | (with_reducible refine below_drewN ?_ _) | (with_reducible refine Below.drew ?_) | (with_reducible exact Bw.out) | (with_reducible exact Bp.out) | (with_reducible exact Below.refl _ _) | (with_reducible refine Below.alloc ?_ (by first | exact Nat.le_refl _ | (simp; done) | (simp; omega) | omega) _)))
set_option maxHeartbeats 800000 in
theorem implGsGive_any (a b : Nat) (w : World) : Calls Try.prog 68 #[.agg #[.float .f32 a, .float .f32 b]] w (GsR a b w) := by
  have A := Lib.hid ((Cells.made w [Value.float .f32 a, .float .f32 b] 42).al (.cells ([Value.float .f32 0, .float .f32 0]).toArray 42))
  have X := Cells.made (w.alloc (.cells ([Value.float .f32 a, .float .f32 b]).toArray 42)) [Value.float .f32 0, .float .f32 0] 42
  rw [show (w.alloc (.cells ([Value.float .f32 a, .float .f32 b]).toArray 42)).heap.size = w.heap.size + 1 from by simp] at X
  have X := Lib.hid X
  have Bw := Lib.hid (below_al2 w (.cells ([Value.float .f32 a, .float .f32 b]).toArray 42) (.cells ([Value.float .f32 0, .float .f32 0]).toArray 42))
  have FN := Lib.hid (fun (e : gsv a b = false) w1 (hb : Below w.heap.size w w1) => (show GsR a b w (.returned (.tuple #[.agg #[.float .f32 0, .float .f32 0], .bool false])) w1 from by unfold GsR; rw [e]; exact ⟨0, 0, rfl, rfl, rfl, hb⟩))
  have FY := Lib.hid (fun (e : gsv a b = true) w1 (hb : Below w.heap.size w w1) => (show GsR a b w (.returned (.tuple #[.agg #[.float .f32 a, .float .f32 b], .bool true])) w1 from by unfold GsR; rw [e]; exact ⟨a, b, rfl, rfl, rfl, hb⟩))
  cases G : gsv a b
  · skip
    have E := Lib.hid (FN.out G)
    have HG := Lib.hid G
    clear G FN FY
    go_enter Try.func68, Try.ntmps68
    go_wp2_with fail
    refine (implGs_any a b _).mono ?_
    rw [HG.out]
    rintro e w1 ⟨rfl, hb⟩
    have A := Lib.hid (A.out.kept hb)
    have X := Lib.hid (X.out.kept hb)
    have Bw := Lib.hid (below_step Bw.out hb)
    clear hb
    have c0 := A.out.at 0 rfl
    have c1 := A.out.at 1 rfl
    have d0 := X.out.at 0 rfl
    have d1 := X.out.at 1 rfl
    have e0 := X.out.fz 0
    have e1 := X.out.fz 1
    go_wp2
    refine bodyPost_ret (v := .tuple #[.agg #[.float .f32 0, .float .f32 0], .bool false]) ?_ rfl ?_
    · rw [results_cell_tmp rfl]
      go_simp
    · exact E.out _ (by repeat (first | (with_reducible refine Below.setCell ?_ (by first | exact Nat.le_refl _ | (simp; done) | (simp; omega) | omega) _) | (with_reducible refine below_drewN ?_ _) | (with_reducible refine Below.drew ?_) | (with_reducible exact Bw.out) | (with_reducible exact Bp.out) | (with_reducible exact Below.refl _ _) | (with_reducible refine Below.alloc ?_ (by first | exact Nat.le_refl _ | (simp; done) | (simp; omega) | omega) _)))
  · skip
    have E := Lib.hid (FY.out G)
    have HG := Lib.hid G
    clear G FN FY
    go_enter Try.func68, Try.ntmps68
    go_wp2_with fail
    refine (implGs_any a b _).mono ?_
    rw [HG.out]
    rintro e w1 ⟨rfl, hb⟩
    have A := Lib.hid (A.out.kept hb)
    have X := Lib.hid (X.out.kept hb)
    have Bw := Lib.hid (below_step Bw.out hb)
    clear hb
    have c0 := A.out.at 0 rfl
    have c1 := A.out.at 1 rfl
    have d0 := X.out.at 0 rfl
    have d1 := X.out.at 1 rfl
    have e0 := X.out.fz 0
    have e1 := X.out.fz 1
    go_wp2
    refine bodyPost_ret (v := .tuple #[.agg #[.float .f32 a, .float .f32 b], .bool true]) ?_ rfl ?_
    · rw [results_cell_tmp rfl]
      go_simp
    · exact E.out _ (by repeat (first | (with_reducible refine Below.setCell ?_ (by first | exact Nat.le_refl _ | (simp; done) | (simp; omega) | omega) _) | (with_reducible refine below_drewN ?_ _) | (with_reducible refine Below.drew ?_) | (with_reducible exact Bw.out) | (with_reducible exact Bp.out) | (with_reducible exact Below.refl _ _) | (with_reducible refine Below.alloc ?_ (by first | exact Nat.le_refl _ | (simp; done) | (simp; omega) | omega) _)))
end Go.Proofs.Ytdemahghjgghkaa
