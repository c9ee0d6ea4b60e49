/- IceQ: of Ice, what speaks of the program alone. -/
import Derived.Test.YtgcgfnpkkhhkgabStuff
import Derived.Test.YtgcgfnpkkhhkgabGiv2
import Derived.Test.YtgcgfnpkkhhkgabLooseB
import Derived.Test.YtgcgfnpkkhhkgabFu
namespace Go.Proofs.Ytgcgfnpkkhhkgab
open Go.RowKit
set_option linter.unusedVariables false

theorem fopl' (op : BinOp) (k : FloatKind) (x y : Nat) : fop op k (cn k x) y = fop op k x y := by
  unfold fop
  rw [← floatBits_cn op k (cn k x) y, cn_cn, floatBits_cn]
theorem fopr' (op : BinOp) (k : FloatKind) (x y : Nat) : fop op k x (cn k y) = fop op k x y := by
  unfold fop
  rw [← floatBits_cn op k x (cn k y), cn_cn, floatBits_cn]
theorem o32d (x c : Nat) : FloatKind.f32.format.order x c = none ∨ FloatKind.f32.format.order x c = some .lt ∨ FloatKind.f32.format.order x c = some .eq ∨ FloatKind.f32.format.order x c = some .gt := by
  cases FloatKind.f32.format.order x c with
  | none => exact .inl rfl
  | some o => cases o <;> simp
theorem order_zero (x y : Nat) (h : cn .f32 x = cn .f32 y) : FloatKind.f32.format.order x 0 = FloatKind.f32.format.order y 0 := by
  rw [← order_cn .f32 x 0, ← order_cn .f32 y 0, h]
theorem gt0_cn {x S : Nat} (h : cn .f32 x = S) : gt0 x = gt0 S := by
  unfold gt0; rw [order_zero x S (by rw [← h, cn_cn])]
theorem pos_cn {x S : Nat} (h : cn .f32 x = S) : pos x = pos S := by
  unfold pos; rw [gt0_cn h, ← h, fin_cn]
/-- at least 0 -/
def ge0 (x : Nat) : Bool := FloatKind.f32.format.order x 0 == some .gt || FloatKind.f32.format.order x 0 == some .eq
theorem fin_inf32 {x : Nat} {s : Bool} (h : FloatKind.f32.decode x = .infinity s) : fin .f32 x = false := by
  unfold fin; rw [h]; simp [Ieee.Datum.isInfinity]
/-- where a sum is finite, both of its numbers are -/
theorem add_fin {i k : Nat} (h : fin .f32 (fop .add .f32 i k) = true) : fin .f32 i = true ∧ fin .f32 k = true := by
  have key : ∀ i k, fin .f32 i = false → fin .f32 (fop .add .f32 i k) = false ∧ fin .f32 (fop .add .f32 k i) = false := by
    intro i k hi
    cases hn : nn .f32 i
    · obtain ⟨s, hs⟩ := inf_of hi hn
      have e1 : FloatKind.f32.format.read i = .infinity s := hs
      have e : ∀ x y, floatBits .add .f32 x y = ((FloatKind.f32.format.read x).sum (FloatKind.f32.format.read y)).map FloatKind.f32.format.write := fun _ _ => rfl
      unfold fop
      rw [e i k, e k i, e1]
      cases hk : FloatKind.f32.format.read k with
      | number t m q => exact ⟨by simp [Ieee.Datum.sum]; cases s <;> decide +kernel, by simp [Ieee.Datum.sum]; cases s <;> decide +kernel⟩
      | infinity t => cases s <;> cases t <;> exact ⟨by decide +kernel, by decide +kernel⟩
      | nan t p => exact ⟨by simp [Ieee.Datum.sum]; decide +kernel, by simp [Ieee.Datum.sum]; decide +kernel⟩
    · unfold fop
      rw [floatBits_nan_left hn, floatBits_nan_right hn]
      exact ⟨by decide +kernel, by decide +kernel⟩
  constructor
  · cases hi : fin .f32 i
    · rw [(key i k hi).1] at h; cases h
    · rfl
  · cases hk : fin .f32 k
    · rw [(key k i hk).2] at h; cases h
    · rfl
/-- a number up to a not-a-number's bits; the world is as it was but for questions -/
def Num2 (S : Nat) (w : World) (e : Ending) (w' : World) : Prop := ∃ r, cn .f32 r = S ∧ e = .returned (.float .f32 r) ∧ ∃ n, w' = w.drewN n
def iceOk (s : SF) (i k t : Nat) : Bool := vStuff s && ge0 i && ge0 k && pos (fop .add .f32 i k) && pos t
theorem iceOk_spec (s : SF) (i k t : Nat) : iceOk s i k t = (vStuff s && (fin .f32 i && ge0 i) && (fin .f32 k && ge0 k) && pos (fop .add .f32 i k) && pos t) := by
  unfold iceOk
  cases hp : pos (fop .add .f32 i k)
  · simp
  · have : fin .f32 (fop .add .f32 i k) = true := by unfold pos at hp; simp at hp; exact hp.1
    obtain ⟨a, b⟩ := add_fin this
    rw [a, b]
    simp
def growX (s : SF) (i k a t : Nat) : Nat := fop .add .f32 i (fop .quo .f32 (fop .mul .f32 (fop .mul .f32 t s.es) (fop .sub .f32 s.pt a)) (fop .mul .f32 (fop .add .f32 i k) s.la))
def growF (s : SF) (i k a t : Nat) : Nat := if gt0 (growX s i k a t) then growX s i k a t else 0
theorem growX_of {s : SF} {i k a t r1 r2 r3 r4 r5 r6 r7 : Nat} (f1 : FR .mul .f32 t s.es r1) (f2 : FR .sub .f32 s.pt a r2) (f3 : FR .mul .f32 r1 r2 r3) (f4 : FR .add .f32 i k r4) (f5 : FR .mul .f32 r4 s.la r5) (f6 : FR .quo .f32 r3 r5 r6) (f7 : FR .add .f32 i r6 r7) : cn .f32 r7 = growX s i k a t := by
  unfold growX; rw [f7.1, f6.1, f5.1, f4.1, f3.1, f2.1, f1.1]; simp only [fopl', fopr']
theorem growF_gt {s : SF} {i k a t r : Nat} (h : cn .f32 r = growX s i k a t) (hg : gt0 r = true) : cn .f32 r = growF s i k a t := by
  unfold growF; rw [← gt0_cn h, hg, if_pos rfl]; exact h
theorem growF_no {s : SF} {i k a t r : Nat} (h : cn .f32 r = growX s i k a t) (hg : gt0 r = false) : growF s i k a t = 0 := by
  unfold growF; rw [← gt0_cn h, hg, if_neg (by decide)]
theorem specLeast_any (x : Nat) (w : World) : Calls Try.prog 96 #[.float .f32 x] w (Bol (fin .f32 x && ge0 x) w) := by
  have E := Lib.hid (show ge0 x = (FloatKind.f32.format.order x 0 == some .gt || FloatKind.f32.format.order x 0 == some .eq) from rfl)
  cases hf : fin .f32 x
  · have HF := Lib.hid hf
    clear hf
    go_enter Try.func96, Try.ntmps96
    go_wp2_with fail
    refine (specFinite_any _ _).mono ?_
    rw [HF.out]
    rintro e w1 ⟨rfl, n, rfl⟩
    go_wp2
    go_ret
    exact ⟨rfl, _, rfl⟩
  · have HF := Lib.hid hf
    clear hf
    rcases o32d x 0 with o1 | o1 | o1 | o1
    all_goals
      go_enter Try.func96, Try.ntmps96
      go_wp2_with fail
      refine (specFinite_any _ _).mono ?_
      rw [HF.out]
      rintro e w1 ⟨rfl, n, rfl⟩
      go_wp2
      go_ret
      refine ⟨ret_bb ?_, _, rfl⟩
      rw [E.out, o1]
      rfl
set_option maxHeartbeats 1600000 in
theorem specIce_any (s : SF) (i k t b : Nat) (w : World) (A : Cells w b s.vs) : Calls Try.prog 81 #[.pointer (some ⟨b, 0, none⟩), .float .f32 i, .float .f32 k, .float .f32 t] w (Bol (iceOk s i k t) w) := by
  rw [iceOk_spec]
  have A := Lib.hid A
  cases B0 : vStuff s
  · have H0 := Lib.hid B0
    clear B0
    go_enter Try.func81, Try.ntmps81
    go_wp2_with fail
    refine (specStuff_any s _ _ A.out).mono ?_
    rw [H0.out]
    rintro e w1 ⟨rfl, n1, rfl⟩
    go_wp2
    go_ret
    exact ⟨ret_bb (by simp), _, rfl⟩
  · skip
    cases B1 : (fin .f32 i && ge0 i)
    · have H0 := Lib.hid B0
      have H1 := Lib.hid B1
      clear B0 B1
      go_enter Try.func81, Try.ntmps81
      go_wp2_with fail
      refine (specStuff_any s _ _ A.out).mono ?_
      rw [H0.out]
      rintro e w1 ⟨rfl, n1, rfl⟩
      go_wp2_with fail
      refine (specLeast_any i _).mono ?_
      rw [H1.out]
      rintro e w2 ⟨rfl, n2, rfl⟩
      go_wp2
      go_ret
      exact ⟨ret_bb (by simp), _, rfl⟩
    · skip
      cases B2 : (fin .f32 k && ge0 k)
      · have H0 := Lib.hid B0
        have H1 := Lib.hid B1
        have H2 := Lib.hid B2
        clear B0 B1 B2
        go_enter Try.func81, Try.ntmps81
        go_wp2_with fail
        refine (specStuff_any s _ _ A.out).mono ?_
        rw [H0.out]
        rintro e w1 ⟨rfl, n1, rfl⟩
        go_wp2_with fail
        refine (specLeast_any i _).mono ?_
        rw [H1.out]
        rintro e w2 ⟨rfl, n2, rfl⟩
        go_wp2_with fail
        refine (specLeast_any k _).mono ?_
        rw [H2.out]
        rintro e w2 ⟨rfl, n2, rfl⟩
        go_wp2
        go_ret
        exact ⟨ret_bb (by simp), _, rfl⟩
      · skip
        cases B3 : pos (fop .add .f32 i k)
        · have H0 := Lib.hid B0
          have H1 := Lib.hid B1
          have H2 := Lib.hid B2
          have H3 := Lib.hid B3
          clear B0 B1 B2 B3
          go_enter Try.func81, Try.ntmps81
          go_wp2_with fail
          refine (specStuff_any s _ _ A.out).mono ?_
          rw [H0.out]
          rintro e w1 ⟨rfl, n1, rfl⟩
          go_wp2_with fail
          refine (specLeast_any i _).mono ?_
          rw [H1.out]
          rintro e w2 ⟨rfl, n2, rfl⟩
          go_wp2_with fail
          refine (specLeast_any k _).mono ?_
          rw [H2.out]
          rintro e w2 ⟨rfl, n2, rfl⟩
          go_wp2_with (refine upon_fa .add rfl _ .f32 i k ?_; intro r1 j1 f1)
          refine (specAbove_any _ _).mono ?_
          rw [pos_cn (show cn .f32 r1 = fop .add .f32 i k by rw [f1.1]; simp only [fopl', fopr']), H3.out]
          rintro e w3 ⟨rfl, n3, rfl⟩
          go_wp2
          go_ret
          exact ⟨ret_bb (by simp), _, rfl⟩
        · skip
          have H0 := Lib.hid B0
          have H1 := Lib.hid B1
          have H2 := Lib.hid B2
          have H3 := Lib.hid B3
          clear B0 B1 B2 B3
          go_enter Try.func81, Try.ntmps81
          go_wp2_with fail
          refine (specStuff_any s _ _ A.out).mono ?_
          rw [H0.out]
          rintro e w1 ⟨rfl, n1, rfl⟩
          go_wp2_with fail
          refine (specLeast_any i _).mono ?_
          rw [H1.out]
          rintro e w2 ⟨rfl, n2, rfl⟩
          go_wp2_with fail
          refine (specLeast_any k _).mono ?_
          rw [H2.out]
          rintro e w2 ⟨rfl, n2, rfl⟩
          go_wp2_with (refine upon_fa .add rfl _ .f32 i k ?_; intro r1 j1 f1)
          refine (specAbove_any _ _).mono ?_
          rw [pos_cn (show cn .f32 r1 = fop .add .f32 i k by rw [f1.1]; simp only [fopl', fopr']), H3.out]
          rintro e w3 ⟨rfl, n3, rfl⟩
          go_wp2_with fail
          refine (specAbove_any t _).mono ?_
          rintro e w4 ⟨rfl, n4, rfl⟩
          go_wp2
          go_ret
          exact ⟨ret_bb (by simp), _, rfl⟩
set_option maxHeartbeats 3200000 in
theorem implIce_any (s : SF) (i k t : Nat) (w : World) : Calls Try.prog 84 #[.agg #[.float .f32 s.so, .float .f32 s.fl, .float .f32 s.es, .float .f32 s.ef, .float .f32 s.pt, .float .f32 s.la], .float .f32 i, .float .f32 k, .float .f32 t] w (BolB (iceOk s i k t) w) := by
  have A := Lib.hid (Cells.made w s.vs 26)
  have Bw := Lib.hid (below_al1 w (.cells #[.float .f32 s.so, .float .f32 s.fl, .float .f32 s.es, .float .f32 s.ef, .float .f32 s.pt, .float .f32 s.la] 26))
  cases S0 : vStuff s
  · have HS := Lib.hid S0
    have V := Lib.hid (show iceOk s i k t = false by unfold iceOk; rw [S0]; rfl)
    clear S0
    go_enter Try.func84, Try.ntmps84
    go_wp2_with fail
    refine (implVStuff_any s _).mono ?_
    rw [HS.out]
    rintro e w2 ⟨rfl, hb⟩
    (first | (have Bw := Lib.hid (below_step Bw.out hb)) | (have Bw := Lib.hid (below_step Bw.out (below_undrew hb))) | (have Bw := Lib.hid (below_step Bw.out (below_unal hb))) | (have Bw := Lib.hid (below_step Bw.out (below_unal (below_undrew hb)))) | (have Bw := Lib.hid (below_step Bw.out (below_undrew (below_unal hb)))) | (have Bw := Lib.hid (below_step Bw.out (below_unal (below_unal hb)))))
    (first | (have A := Lib.hid (A.out.kept hb)) | (have A := Lib.hid (A.out.kept (below_undrew hb))) | (have A := Lib.hid (A.out.kept (below_unal hb))) | (have A := Lib.hid (A.out.kept (below_unal (below_undrew hb)))) | (have A := Lib.hid (A.out.kept (below_undrew (below_unal hb)))) | (have A := Lib.hid (A.out.kept (below_unal (below_unal hb)))))
    have hz := Bw.out.size
    clear hb
    go_wp2
    go_ret
    exact ⟨ret_bb V.out, (by repeat (first | exact Bw.out | exact Below.refl _ _ | refine Below.setCell ?_ (by first | exact Nat.le_refl _ | (simp; done) | (simp; omega) | omega) _ | refine below_drewN ?_ _ | refine Below.alloc ?_ (by first | exact Nat.le_refl _ | (simp; done) | (simp; omega) | omega) _))⟩
  · rcases o32d i 0 with o1 | o1 | o1 | o1
    case inl =>
      have V := Lib.hid (show iceOk s i k t = false by unfold iceOk ge0; rw [o1]; simp)
      have HS := Lib.hid S0
      clear S0
      go_enter Try.func84, Try.ntmps84
      go_wp2_with fail
      refine (implVStuff_any s _).mono ?_
      rw [HS.out]
      rintro e w2 ⟨rfl, hb⟩
      (first | (have Bw := Lib.hid (below_step Bw.out hb)) | (have Bw := Lib.hid (below_step Bw.out (below_undrew hb))) | (have Bw := Lib.hid (below_step Bw.out (below_unal hb))) | (have Bw := Lib.hid (below_step Bw.out (below_unal (below_undrew hb)))) | (have Bw := Lib.hid (below_step Bw.out (below_undrew (below_unal hb)))) | (have Bw := Lib.hid (below_step Bw.out (below_unal (below_unal hb)))))
      (first | (have A := Lib.hid (A.out.kept hb)) | (have A := Lib.hid (A.out.kept (below_undrew hb))) | (have A := Lib.hid (A.out.kept (below_unal hb))) | (have A := Lib.hid (A.out.kept (below_unal (below_undrew hb)))) | (have A := Lib.hid (A.out.kept (below_undrew (below_unal hb)))) | (have A := Lib.hid (A.out.kept (below_unal (below_unal hb)))))
      have hz := Bw.out.size
      clear hb
      go_wp2
      go_ret
      exact ⟨ret_bb V.out, (by repeat (first | exact Bw.out | exact Below.refl _ _ | refine Below.setCell ?_ (by first | exact Nat.le_refl _ | (simp; done) | (simp; omega) | omega) _ | refine below_drewN ?_ _ | refine Below.alloc ?_ (by first | exact Nat.le_refl _ | (simp; done) | (simp; omega) | omega) _))⟩
    case inr.inl =>
      have V := Lib.hid (show iceOk s i k t = false by unfold iceOk ge0; rw [o1]; simp)
      have HS := Lib.hid S0
      clear S0
      go_enter Try.func84, Try.ntmps84
      go_wp2_with fail
      refine (implVStuff_any s _).mono ?_
      rw [HS.out]
      rintro e w2 ⟨rfl, hb⟩
      (first | (have Bw := Lib.hid (below_step Bw.out hb)) | (have Bw := Lib.hid (below_step Bw.out (below_undrew hb))) | (have Bw := Lib.hid (below_step Bw.out (below_unal hb))) | (have Bw := Lib.hid (below_step Bw.out (below_unal (below_undrew hb)))) | (have Bw := Lib.hid (below_step Bw.out (below_undrew (below_unal hb)))) | (have Bw := Lib.hid (below_step Bw.out (below_unal (below_unal hb)))))
      (first | (have A := Lib.hid (A.out.kept hb)) | (have A := Lib.hid (A.out.kept (below_undrew hb))) | (have A := Lib.hid (A.out.kept (below_unal hb))) | (have A := Lib.hid (A.out.kept (below_unal (below_undrew hb)))) | (have A := Lib.hid (A.out.kept (below_undrew (below_unal hb)))) | (have A := Lib.hid (A.out.kept (below_unal (below_unal hb)))))
      have hz := Bw.out.size
      clear hb
      go_wp2
      go_ret
      exact ⟨ret_bb V.out, (by repeat (first | exact Bw.out | exact Below.refl _ _ | refine Below.setCell ?_ (by first | exact Nat.le_refl _ | (simp; done) | (simp; omega) | omega) _ | refine below_drewN ?_ _ | refine Below.alloc ?_ (by first | exact Nat.le_refl _ | (simp; done) | (simp; omega) | omega) _))⟩
    all_goals
      have G1 := Lib.hid (show ge0 i = true by unfold ge0; rw [o1]; rfl)
      rcases o32d k 0 with o2 | o2 | o2 | o2
      case inl =>
        have V := Lib.hid (show iceOk s i k t = false by unfold iceOk; rw [show ge0 k = false by unfold ge0; rw [o2]; rfl]; simp)
        have HS := Lib.hid S0
        clear S0
        go_enter Try.func84, Try.ntmps84
        go_wp2_with fail
        refine (implVStuff_any s _).mono ?_
        rw [HS.out]
        rintro e w2 ⟨rfl, hb⟩
        (first | (have Bw := Lib.hid (below_step Bw.out hb)) | (have Bw := Lib.hid (below_step Bw.out (below_undrew hb))) | (have Bw := Lib.hid (below_step Bw.out (below_unal hb))) | (have Bw := Lib.hid (below_step Bw.out (below_unal (below_undrew hb)))) | (have Bw := Lib.hid (below_step Bw.out (below_undrew (below_unal hb)))) | (have Bw := Lib.hid (below_step Bw.out (below_unal (below_unal hb)))))
        (first | (have A := Lib.hid (A.out.kept hb)) | (have A := Lib.hid (A.out.kept (below_undrew hb))) | (have A := Lib.hid (A.out.kept (below_unal hb))) | (have A := Lib.hid (A.out.kept (below_unal (below_undrew hb)))) | (have A := Lib.hid (A.out.kept (below_undrew (below_unal hb)))) | (have A := Lib.hid (A.out.kept (below_unal (below_unal hb)))))
        have hz := Bw.out.size
        clear hb
        go_wp2
        go_ret
        exact ⟨ret_bb V.out, (by repeat (first | exact Bw.out | exact Below.refl _ _ | refine Below.setCell ?_ (by first | exact Nat.le_refl _ | (simp; done) | (simp; omega) | omega) _ | refine below_drewN ?_ _ | refine Below.alloc ?_ (by first | exact Nat.le_refl _ | (simp; done) | (simp; omega) | omega) _))⟩
      case inr.inl =>
        have V := Lib.hid (show iceOk s i k t = false by unfold iceOk; rw [show ge0 k = false by unfold ge0; rw [o2]; rfl]; simp)
        have HS := Lib.hid S0
        clear S0
        go_enter Try.func84, Try.ntmps84
        go_wp2_with fail
        refine (implVStuff_any s _).mono ?_
        rw [HS.out]
        rintro e w2 ⟨rfl, hb⟩
        (first | (have Bw := Lib.hid (below_step Bw.out hb)) | (have Bw := Lib.hid (below_step Bw.out (below_undrew hb))) | (have Bw := Lib.hid (below_step Bw.out (below_unal hb))) | (have Bw := Lib.hid (below_step Bw.out (below_unal (below_undrew hb)))) | (have Bw := Lib.hid (below_step Bw.out (below_undrew (below_unal hb)))) | (have Bw := Lib.hid (below_step Bw.out (below_unal (below_unal hb)))))
        (first | (have A := Lib.hid (A.out.kept hb)) | (have A := Lib.hid (A.out.kept (below_undrew hb))) | (have A := Lib.hid (A.out.kept (below_unal hb))) | (have A := Lib.hid (A.out.kept (below_unal (below_undrew hb)))) | (have A := Lib.hid (A.out.kept (below_undrew (below_unal hb)))) | (have A := Lib.hid (A.out.kept (below_unal (below_unal hb)))))
        have hz := Bw.out.size
        clear hb
        go_wp2
        go_ret
        exact ⟨ret_bb V.out, (by repeat (first | exact Bw.out | exact Below.refl _ _ | refine Below.setCell ?_ (by first | exact Nat.le_refl _ | (simp; done) | (simp; omega) | omega) _ | refine below_drewN ?_ _ | refine Below.alloc ?_ (by first | exact Nat.le_refl _ | (simp; done) | (simp; omega) | omega) _))⟩
      all_goals
        have G2 := Lib.hid (show ge0 k = true by unfold ge0; rw [o2]; rfl)
        cases B3 : pos (fop .add .f32 i k)
        · have HS := Lib.hid S0
          have H3 := Lib.hid B3
          have V := Lib.hid (show iceOk s i k t = false by unfold iceOk; rw [S0, G1.out, G2.out, B3]; rfl)
          clear S0 B3
          go_enter Try.func84, Try.ntmps84
          go_wp2_with fail
          refine (implVStuff_any s _).mono ?_
          rw [HS.out]
          rintro e w2 ⟨rfl, hb⟩
          (first | (have Bw := Lib.hid (below_step Bw.out hb)) | (have Bw := Lib.hid (below_step Bw.out (below_undrew hb))) | (have Bw := Lib.hid (below_step Bw.out (below_unal hb))) | (have Bw := Lib.hid (below_step Bw.out (below_unal (below_undrew hb)))) | (have Bw := Lib.hid (below_step Bw.out (below_undrew (below_unal hb)))) | (have Bw := Lib.hid (below_step Bw.out (below_unal (below_unal hb)))))
          (first | (have A := Lib.hid (A.out.kept hb)) | (have A := Lib.hid (A.out.kept (below_undrew hb))) | (have A := Lib.hid (A.out.kept (below_unal hb))) | (have A := Lib.hid (A.out.kept (below_unal (below_undrew hb)))) | (have A := Lib.hid (A.out.kept (below_undrew (below_unal hb)))) | (have A := Lib.hid (A.out.kept (below_unal (below_unal hb)))))
          have hz := Bw.out.size
          clear hb
          go_wp2_with (refine upon_fa .add rfl _ .f32 i k ?_; intro r1 j1 f1)
          refine (implPos_any _ _).mono ?_
          rw [pos_cn (show cn .f32 r1 = fop .add .f32 i k by rw [f1.1]; simp only [fopl', fopr']), H3.out]
          rintro e w3 ⟨rfl, n3, rfl⟩
          go_wp2
          go_ret
          exact ⟨ret_bb V.out, (by repeat (first | exact Bw.out | exact Below.refl _ _ | refine Below.setCell ?_ (by first | exact Nat.le_refl _ | (simp; done) | (simp; omega) | omega) _ | refine below_drewN ?_ _ | refine Below.alloc ?_ (by first | exact Nat.le_refl _ | (simp; done) | (simp; omega) | omega) _))⟩
        · have HS := Lib.hid S0
          have H3 := Lib.hid B3
          have V := Lib.hid (show iceOk s i k t = pos t by unfold iceOk; rw [S0, G1.out, G2.out, B3]; rfl)
          clear S0 B3
          go_enter Try.func84, Try.ntmps84
          go_wp2_with fail
          refine (implVStuff_any s _).mono ?_
          rw [HS.out]
          rintro e w2 ⟨rfl, hb⟩
          (first | (have Bw := Lib.hid (below_step Bw.out hb)) | (have Bw := Lib.hid (below_step Bw.out (below_undrew hb))) | (have Bw := Lib.hid (below_step Bw.out (below_unal hb))) | (have Bw := Lib.hid (below_step Bw.out (below_unal (below_undrew hb)))) | (have Bw := Lib.hid (below_step Bw.out (below_undrew (below_unal hb)))) | (have Bw := Lib.hid (below_step Bw.out (below_unal (below_unal hb)))))
          (first | (have A := Lib.hid (A.out.kept hb)) | (have A := Lib.hid (A.out.kept (below_undrew hb))) | (have A := Lib.hid (A.out.kept (below_unal hb))) | (have A := Lib.hid (A.out.kept (below_unal (below_undrew hb)))) | (have A := Lib.hid (A.out.kept (below_undrew (below_unal hb)))) | (have A := Lib.hid (A.out.kept (below_unal (below_unal hb)))))
          have hz := Bw.out.size
          clear hb
          go_wp2_with (refine upon_fa .add rfl _ .f32 i k ?_; intro r1 j1 f1)
          refine (implPos_any _ _).mono ?_
          rw [pos_cn (show cn .f32 r1 = fop .add .f32 i k by rw [f1.1]; simp only [fopl', fopr']), H3.out]
          rintro e w3 ⟨rfl, n3, rfl⟩
          go_wp2_with fail
          refine (implPos_any t _).mono ?_
          rintro e w4 ⟨rfl, n4, rfl⟩
          go_wp2
          go_ret
          exact ⟨ret_bb V.out, (by repeat (first | exact Bw.out | exact Below.refl _ _ | refine Below.setCell ?_ (by first | exact Nat.le_refl _ | (simp; done) | (simp; omega) | omega) _ | refine below_drewN ?_ _ | refine Below.alloc ?_ (by first | exact Nat.le_refl _ | (simp; done) | (simp; omega) | omega) _))⟩
set_option maxHeartbeats 1600000 in
theorem specGrowV_any (s : SF) (i k a t b : Nat) (w : World) (A : Cells w b s.vs) : Calls Try.prog 83 #[.pointer (some ⟨b, 0, none⟩), .float .f32 i, .float .f32 k, .float .f32 a, .float .f32 t] w (Num2 (growF s i k a t) w) := by
  have c0 := A.at 0 rfl
  have c1 := A.at 1 rfl
  have c2 := A.at 2 rfl
  have c3 := A.at 3 rfl
  have c4 := A.at 4 rfl
  have c5 := A.at 5 rfl
  clear A
  go_enter Try.func83, Try.ntmps83
  go_wp2
  refine wp_region_loose (fun _ _ _ => True) (by kernel_rfl) (by kernel_rfl) ?_
  repeat (first | (refine wpLoose_farith rfl _ _ _ _ _ rfl rfl _ _ _ rfl rfl ?_; intro _ _) | (refine wpLoose_valK rfl ?_ (fun w1 hw1 => ?_) (fun K hK => ?_); rotate_left; (focus (obtain ⟨nq, rfl⟩ := hw1; go_simp; first | done | rfl)); go_simp; refine hK _ ?_; clear hK K))
  (refine wpLoose_nil ?_; rintro _ ⟨nq, rfl⟩)
  go_wp2_with (refine wpList_farith rfl _ _ _ _ _ rfl rfl _ _ _ rfl rfl ?_; intro _ _ _)
  · go_ret
    rename_i r1 f1 r2 f2 r3 f3 r4 j4 f4 r5 j5 f5 r6 j6 f6 r7 j7 f7 h h2 h3
    have hX := growX_of f1 f2 f3 f4 f5 f6 f7
    have hg : gt0 r7 = false := by unfold gt0; first | (simpa using h) | (simpa using h2) | (simpa using h3)
    exact ⟨0, by rw [growF_no hX hg]; decide +kernel, rfl, _, rfl⟩
  · go_ret
    rename_i r1 f1 r2 f2 r3 f3 r4 j4 f4 r5 j5 f5 r6 j6 f6 r7 j7 f7 h
    have hX := growX_of f1 f2 f3 f4 f5 f6 f7
    have hg : gt0 r7 = true := by unfold gt0; simpa using h
    exact ⟨_, growF_gt hX hg, rfl, _, rfl⟩
def growOk (s : SF) (i k a t : Nat) : Bool := iceOk s i k t && fin .f32 a
def growS (s : SF) (i k a t : Nat) : Nat := bif growOk s i k a t then ifF (growF s i k a t) else 0
def growB (s : SF) (i k a t : Nat) : Bool := growOk s i k a t && fin .f32 (growF s i k a t)
theorem GivG.no {s : SF} {i k a t : Nat} {w w' : World} (h : growOk s i k a t = false) (hb : Below w.heap.size w w') : GivB (growS s i k a t) (growB s i k a t) w (.returned (.tuple #[.float .f32 0, .bool false])) w' := by
  unfold growS growB; rw [h]; exact GivB.no hb
theorem GivG.num {s : SF} {i k a t x : Nat} {w w' : World} (h : growOk s i k a t = true) (hx : cn .f32 x = growF s i k a t) (hb : Below w.heap.size w w') : GivB (growS s i k a t) (growB s i k a t) w (.returned (.tuple #[.float .f32 (ifF x), .bool (fin .f32 x)])) w' := by
  unfold growS growB; rw [h]; exact GivB.num hx hb
theorem GivG.zero {s : SF} {i k a t : Nat} {w w' : World} (h : growOk s i k a t = true) (hx : growF s i k a t = 0) (hb : Below w.heap.size w w') : GivB (growS s i k a t) (growB s i k a t) w (.returned (.tuple #[.float .f32 0, .bool true])) w' := by
  unfold growS growB; rw [h, hx]; exact ⟨0, by decide +kernel, rfl, hb⟩
theorem grow1 {s : SF} {i k a t : Nat} (h : iceOk s i k t = false) : growOk s i k a t = false := by unfold growOk; rw [h]; rfl
theorem grow2 {s : SF} {i k a t : Nat} (h : fin .f32 a = false) : growOk s i k a t = false := by unfold growOk; rw [h, Bool.and_false]
theorem grow3 {s : SF} {i k a t : Nat} (h : iceOk s i k t = true) (h2 : fin .f32 a = true) : growOk s i k a t = true := by unfold growOk; rw [h, h2]; rfl
set_option maxHeartbeats 1600000 in
theorem implGrow_any (s : SF) (i k a t : Nat) (w : World) : Calls Try.prog 85 #[.agg #[.float .f32 s.so, .float .f32 s.fl, .float .f32 s.es, .float .f32 s.ef, .float .f32 s.pt, .float .f32 s.la], .float .f32 i, .float .f32 k, .float .f32 a, .float .f32 t] w (GivB (growS s i k a t) (growB s i k a t) w) := by
  have A := Lib.hid (Cells.made w s.vs 26)
  have Bw := Lib.hid (below_al1 w (.cells #[.float .f32 s.so, .float .f32 s.fl, .float .f32 s.es, .float .f32 s.ef, .float .f32 s.pt, .float .f32 s.la] 26))
  cases S0 : iceOk s i k t
  · have HI := Lib.hid S0
    clear S0
    go_enter Try.func85, Try.ntmps85
    go_wp2_with fail
    refine (implIce_any s i k t _).mono ?_
    rw [HI.out]
    rintro e w2 ⟨rfl, hb⟩
    (first | (have Bw := Lib.hid (below_step Bw.out hb)) | (have Bw := Lib.hid (below_step Bw.out (below_undrew hb))) | (have Bw := Lib.hid (below_step Bw.out (below_unal hb))) | (have Bw := Lib.hid (below_step Bw.out (below_unal (below_undrew hb)))) | (have Bw := Lib.hid (below_step Bw.out (below_undrew (below_unal hb)))) | (have Bw := Lib.hid (below_step Bw.out (below_unal (below_unal hb)))))
    (first | (have A := Lib.hid (A.out.kept hb)) | (have A := Lib.hid (A.out.kept (below_undrew hb))) | (have A := Lib.hid (A.out.kept (below_unal hb))) | (have A := Lib.hid (A.out.kept (below_unal (below_undrew hb)))) | (have A := Lib.hid (A.out.kept (below_undrew (below_unal hb)))) | (have A := Lib.hid (A.out.kept (below_unal (below_unal hb)))))
    have hz := Bw.out.size
    have c0 := A.out.at 0 rfl; have c1 := A.out.at 1 rfl; have c2 := A.out.at 2 rfl; have c3 := A.out.at 3 rfl; have c4 := A.out.at 4 rfl; have c5 := A.out.at 5 rfl
    clear hb
    go_wp2
    go_ret2
    exact GivG.no (grow1 HI.out) (by repeat (first | exact Bw.out | exact Below.refl _ _ | refine Below.setCell ?_ (by first | exact Nat.le_refl _ | (simp; done) | (simp; omega) | omega) _ | refine below_drewN ?_ _ | refine Below.alloc ?_ (by first | exact Nat.le_refl _ | (simp; done) | (simp; omega) | omega) _))
  · cases F0 : fin .f32 a
    · have HI := Lib.hid S0
      have HF := Lib.hid F0
      clear S0 F0
      go_enter Try.func85, Try.ntmps85
      go_wp2_with fail
      refine (implIce_any s i k t _).mono ?_
      rw [HI.out]
      rintro e w2 ⟨rfl, hb⟩
      (first | (have Bw := Lib.hid (below_step Bw.out hb)) | (have Bw := Lib.hid (below_step Bw.out (below_undrew hb))) | (have Bw := Lib.hid (below_step Bw.out (below_unal hb))) | (have Bw := Lib.hid (below_step Bw.out (below_unal (below_undrew hb)))) | (have Bw := Lib.hid (below_step Bw.out (below_undrew (below_unal hb)))) | (have Bw := Lib.hid (below_step Bw.out (below_unal (below_unal hb)))))
      (first | (have A := Lib.hid (A.out.kept hb)) | (have A := Lib.hid (A.out.kept (below_undrew hb))) | (have A := Lib.hid (A.out.kept (below_unal hb))) | (have A := Lib.hid (A.out.kept (below_unal (below_undrew hb)))) | (have A := Lib.hid (A.out.kept (below_undrew (below_unal hb)))) | (have A := Lib.hid (A.out.kept (below_unal (below_unal hb)))))
      have hz := Bw.out.size
      have c0 := A.out.at 0 rfl; have c1 := A.out.at 1 rfl; have c2 := A.out.at 2 rfl; have c3 := A.out.at 3 rfl; have c4 := A.out.at 4 rfl; have c5 := A.out.at 5 rfl
      clear hb
      go_wp2_with fail
      refine (implFinite_any _ _).mono ?_
      rw [HF.out]
      rintro e w3 ⟨rfl, n2, rfl⟩
      go_wp2
      go_ret2
      exact GivG.no (grow2 HF.out) (by repeat (first | exact Bw.out | exact Below.refl _ _ | refine Below.setCell ?_ (by first | exact Nat.le_refl _ | (simp; done) | (simp; omega) | omega) _ | refine below_drewN ?_ _ | refine Below.alloc ?_ (by first | exact Nat.le_refl _ | (simp; done) | (simp; omega) | omega) _))
    · have HI := Lib.hid S0
      have HF := Lib.hid F0
      clear S0 F0
      go_enter Try.func85, Try.ntmps85
      go_wp2_with fail
      refine (implIce_any s i k t _).mono ?_
      rw [HI.out]
      rintro e w2 ⟨rfl, hb⟩
      (first | (have Bw := Lib.hid (below_step Bw.out hb)) | (have Bw := Lib.hid (below_step Bw.out (below_undrew hb))) | (have Bw := Lib.hid (below_step Bw.out (below_unal hb))) | (have Bw := Lib.hid (below_step Bw.out (below_unal (below_undrew hb)))) | (have Bw := Lib.hid (below_step Bw.out (below_undrew (below_unal hb)))) | (have Bw := Lib.hid (below_step Bw.out (below_unal (below_unal hb)))))
      (first | (have A := Lib.hid (A.out.kept hb)) | (have A := Lib.hid (A.out.kept (below_undrew hb))) | (have A := Lib.hid (A.out.kept (below_unal hb))) | (have A := Lib.hid (A.out.kept (below_unal (below_undrew hb)))) | (have A := Lib.hid (A.out.kept (below_undrew (below_unal hb)))) | (have A := Lib.hid (A.out.kept (below_unal (below_unal hb)))))
      have hz := Bw.out.size
      have c0 := A.out.at 0 rfl; have c1 := A.out.at 1 rfl; have c2 := A.out.at 2 rfl; have c3 := A.out.at 3 rfl; have c4 := A.out.at 4 rfl; have c5 := A.out.at 5 rfl
      clear hb
      go_wp2_with fail
      refine (implFinite_any _ _).mono ?_
      rw [HF.out]
      rintro e w3 ⟨rfl, n2, rfl⟩
      go_wp2_with (first | (refine wpList_farith rfl _ _ _ _ _ rfl rfl _ _ _ rfl rfl ?_; intro _ _ _) | (go_at_call 63; refine (implNum_any _ _).mono ?_; rintro e w5 ⟨rfl, n4, rfl⟩))
      · go_ret2
        rename_i r1 j1 f1 r2 j2 f2 r3 j3 f3 r4 j4 f4 r5 j5 f5 r6 j6 f6 r7 j7 f7 h h2 h3
        have hX := growX_of f1 f2 f3 f4 f5 f6 f7
        have hg : gt0 r7 = false := by unfold gt0; first | (simpa using h) | (simpa using h2) | (simpa using h3)
        exact GivG.zero (grow3 HI.out HF.out) (growF_no hX hg) (by repeat (first | exact Bw.out | exact Below.refl _ _ | refine Below.setCell ?_ (by first | exact Nat.le_refl _ | (simp; done) | (simp; omega) | omega) _ | refine below_drewN ?_ _ | refine Below.alloc ?_ (by first | exact Nat.le_refl _ | (simp; done) | (simp; omega) | omega) _))
      · go_ret2
        rename_i r1 j1 f1 r2 j2 f2 r3 j3 f3 r4 j4 f4 r5 j5 f5 r6 j6 f6 r7 j7 f7 h
        have hX := growX_of f1 f2 f3 f4 f5 f6 f7
        have hg : gt0 r7 = true := by unfold gt0; simpa using h
        exact GivG.num (grow3 HI.out HF.out) (growF_gt hX hg) (by repeat (first | exact Bw.out | exact Below.refl _ _ | refine Below.setCell ?_ (by first | exact Nat.le_refl _ | (simp; done) | (simp; omega) | omega) _ | refine below_drewN ?_ _ | refine Below.alloc ?_ (by first | exact Nat.le_refl _ | (simp; done) | (simp; omega) | omega) _))
end Go.Proofs.Ytgcgfnpkkhhkgab
