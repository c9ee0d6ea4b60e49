/- Lines through points: both sides. -/
import Derived.Test.YtdemahghjgghkaaRds
import Derived.Test.YtdemahghjgghkaaDotJ
import Derived.Test.YtdemahghjgghkaaLooseB
import Derived.Test.YtdemahghjgghkaaFu
import Derived.OwnWalk
import Derived.Laws.Cover2
namespace Go.Proofs.Ytdemahghjgghkaa
open Go.RowKit
set_option linter.unusedVariables false

theorem order_cn_l (x y : Nat) : FloatKind.f32.format.order (cn .f32 x) y = FloatKind.f32.format.order x y := by
  rw [← order_cn .f32 (cn .f32 x) y, cn_cn, order_cn]
/-- two numbers up to a not-a-number's bits, and a bool -/
def Duo (S T : Nat) (b : Bool) (w : World) (e : Ending) (w' : World) : Prop := ∃ r s, cn .f32 r = S ∧ cn .f32 s = T ∧ e = .returned (.tuple #[.float .f32 r, .float .f32 s, .bool b]) ∧ Below w.heap.size w w'
theorem Duo.no {S T : Nat} {b : Bool} {w w' : World} (e : b = false) (hb : Below w.heap.size w w') : Duo (bif b then S else 0) (bif b then T else 0) b w (.returned (.tuple #[.float .f32 0, .float .f32 0, .bool false])) w' := by
  subst e; exact ⟨0, 0, rfl, rfl, rfl, hb⟩
theorem Duo.yes {S T r s : Nat} {b : Bool} {w w' : World} (e : b = true) (hr : cn .f32 r = S) (hs : cn .f32 s = T) (hb : Below w.heap.size w w') : Duo (bif b then S else 0) (bif b then T else 0) b w (.returned (.tuple #[.float .f32 r, .float .f32 s, .bool true])) w' := by
  subst e; exact ⟨r, s, hr, hs, rfl, hb⟩
theorem fin_of {r S : Nat} (h : cn .f32 r = S) : fin .f32 r = fin .f32 S := by rw [← h, fin_cn]
theorem eq0_of {r S : Nat} (h : cn .f32 r = S) : (FloatKind.f32.format.order r 0 == some .eq) = (FloatKind.f32.format.order S 0 == some .eq) := by rw [← h, order_cn_l]

def lnN (n : Nat) : Nat := floatOfInt .f32 (n : Int)
def lnE (N A C : Nat) : Nat := fop .sub .f32 (fop .mul .f32 N C) (fop .mul .f32 A A)
def lnS (N A B C D : Nat) : Nat := fop .quo .f32 (fop .sub .f32 (fop .mul .f32 N D) (fop .mul .f32 A B)) (lnE N A C)
def lnT (N A B C D : Nat) : Nat := fop .quo .f32 (fop .sub .f32 B (fop .mul .f32 (lnS N A B C D) A)) N
def ez (E : Nat) : Bool := FloatKind.f32.format.order E 0 == some .eq
def lnO (N A B C D : Nat) : Bool := !ez (lnE N A C) && fin .f32 (lnS N A B C D) && fin .f32 (lnT N A B C D)
theorem lnE_of {N A C ra rc r0 r1 r2 : Nat} (hA : cn .f32 ra = A) (hC : cn .f32 rc = C) (f0 : FR .mul .f32 N rc r0) (f1 : FR .mul .f32 ra ra r1) (f2 : FR .sub .f32 r0 r1 r2) : cn .f32 r2 = lnE N A C := by
  unfold lnE
  simp only [f2.1, f0.1, f1.1, hA, hC, fopl']
theorem lnS_of {N A B C D ra rb rd e r3 r4 r5 r6 : Nat} (hA : cn .f32 ra = A) (hB : cn .f32 rb = B) (hD : cn .f32 rd = D) (hE : cn .f32 e = lnE N A C) (f3 : FR .mul .f32 N rd r3) (f4 : FR .mul .f32 ra rb r4) (f5 : FR .sub .f32 r3 r4 r5) (f6 : FR .quo .f32 r5 e r6) : cn .f32 r6 = lnS N A B C D := by
  unfold lnS
  simp only [f6.1, f5.1, f3.1, f4.1, hA, hB, hD, hE, fopl']
theorem lnT_of {N A B C D ra rb s r7 r8 r9 : Nat} (hA : cn .f32 ra = A) (hB : cn .f32 rb = B) (hS : cn .f32 s = lnS N A B C D) (f7 : FR .mul .f32 s ra r7) (f8 : FR .sub .f32 rb r7 r8) (f9 : FR .quo .f32 r8 N r9) : cn .f32 r9 = lnT N A B C D := by
  unfold lnT
  simp only [f9.1, f8.1, f7.1, hA, hB, hS, fopr']
def lnP (xs ys : List Nat) : Bool := rds xs && rds ys && decide (xs.length = ys.length) && decide (2 ≤ xs.length)
theorem lnP_of {xs ys : List Nat} (h : lnP xs ys = true) : ys.length = xs.length ∧ 2 ≤ xs.length ∧ xs.length ≤ 128 := by
  unfold lnP at h
  simp only [Bool.and_eq_true, decide_eq_true_eq] at h
  exact ⟨h.1.2.symm, h.2, (rds_len h.1.1.1).2⟩
def lnB (xs ys : List Nat) : Bool := lnP xs ys && lnO (lnN xs.length) (sumF xs) (sumF ys) (dotTo xs xs xs.length) (dotTo xs ys xs.length)

set_option maxRecDepth 100000 in
set_option maxHeartbeats 4000000 in
theorem specLine_any (v v' : Value) (xs ys : List Nat) (w : World) (h : FRow w v xs) (h' : FRow w v' ys) (hl : ys.length = xs.length) (h2 : 2 ≤ xs.length) (h128 : xs.length ≤ 128) (N A B C D : Nat) (hN : N = lnN xs.length) (hA : A = sumF xs) (hB : B = sumF ys) (hC : C = dotTo xs xs xs.length) (hD : D = dotTo xs ys xs.length) :
    Calls Try.prog 58 #[v, v'] w (Duo (bif lnO N A B C D then lnS N A B C D else 0) (bif lnO N A B C D then lnT N A B C D else 0) (lnO N A B C D) w) := by
  have FN := Lib.hid (fun (e : lnO N A B C D = false) w1 (hb : Below w.heap.size w w1) => @Duo.no (lnS N A B C D) (lnT N A B C D) _ w w1 e hb)
  have FY := Lib.hid (fun (e : lnO N A B C D = true) r s w1 hr hs (hb : Below w.heap.size w w1) => @Duo.yes (lnS N A B C D) (lnT N A B C D) r s _ w w1 e hr hs hb)
  generalize (bif lnO N A B C D then lnS N A B C D else 0) = U at *
  generalize (bif lnO N A B C D then lnT N A B C D else 0) = V at *
  have Bw := Lib.hid (Below.refl w.heap.size w)
  have HX := Lib.hid (fun w1 (hb : Below w.heap.size w w1) (hn : 1 ≤ xs.length) => (h.below hb).cells hn)
  have HY := Lib.hid (fun w1 (hb : Below w.heap.size w w1) (hn : 1 ≤ ys.length) => (h'.below hb).cells hn)
  have HL := Lib.hid h.len
  have SX := Lib.hid (fun k (hk : k < xs.length) => sumF_succ xs k hk)
  have SY := Lib.hid (fun k (hk : k < ys.length) => sumF_succ ys k hk)
  have DX := Lib.hid (fun k r p r' => @dot_step xs xs k r p r')
  have DY := Lib.hid (fun k r p r' => @dot_step xs ys k r p r')
  have Z0 := Lib.hid (show cn .f32 0 = sumF (xs.take 0) ∧ cn .f32 0 = sumF (ys.take 0) ∧ cn .f32 0 = dotTo xs xs 0 ∧ cn .f32 0 = dotTo xs ys 0 from ⟨rfl, rfl, rfl, rfl⟩)
  have ZE := Lib.hid (show sumF (xs.take xs.length) = A ∧ sumF (ys.take xs.length) = B ∧ dotTo xs xs xs.length = C ∧ dotTo xs ys xs.length = D from ⟨by rw [List.take_length, hA], by rw [← hl, List.take_length, hB], hC.symm, hD.symm⟩)
  have FN0 := Lib.hid (show floatOfInt .f32 (xs.length : Int) = N from hN.symm)
  clear hN hA hB hC hD
  obtain ⟨a, cap, rfl⟩ := h.shape
  obtain ⟨a', cap', rfl⟩ := h'.shape
  clear h h'
  rw [hl] at HY SY ⊢
  clear hl
  generalize xs.length = n at *
  go_enter Try.func58, Try.ntmps58
  go_wp2
  go_loopw [7, 8, 9, 10, 11, 18] (fun s t u v _ i wr => ∃ k ra rb rc rd : Nat, k ≤ n ∧ i = .int .i64 k ∧ s = .float .f32 ra ∧ t = .float .f32 rb ∧ u = .float .f32 rc ∧ v = .float .f32 rd ∧ Hid (cn .f32 ra = sumF (xs.take k) ∧ cn .f32 rb = sumF (ys.take k) ∧ cn .f32 rc = dotTo xs xs k ∧ cn .f32 rd = dotTo xs ys k) ∧ Hid (Below w.heap.size w wr)) (fun _ _ _ _ _ i _ => n - (intOf i).toNat)
  case atStart => exact ⟨0, 0, 0, 0, 0, Nat.zero_le _, rfl, rfl, rfl, rfl, rfl, Z0, Bw⟩
  case round =>
    obtain ⟨k, ra, rb, rc, rd, hk, rfl, rfl, rfl, rfl, rfl, HV, Bw⟩ := hrel
    have gL := HL.out
    by_cases hlt : k < n
    · obtain ⟨b0, o0, c0, e, hc⟩ := HX.out wr Bw.out (by omega)
      have ea : a = some ⟨b0, o0, none⟩ := by cases e; rfl
      have z0 := hc k hlt
      clear e hc
      obtain ⟨b1, o1, c1, e, hc⟩ := HY.out wr Bw.out (by omega)
      have ea' : a' = some ⟨b1, o1, none⟩ := by cases e; rfl
      have z1 := hc k hlt
      clear e hc HX HY ZE Z0
      subst ea
      subst ea'
      have hi : (0 : Int) ≤ (k : Int) := by omega
      have hi' : (k : Int) < (n : Int) := by omega
      have SXk := Lib.hid (SX.out k hlt)
      have SYk := Lib.hid (SY.out k hlt)
      have DXk := Lib.hid (fun p r' => DX.out k rc p r' HV.out.2.2.1)
      have DYk := Lib.hid (fun p r' => DY.out k rd p r' HV.out.2.2.2)
      clear SX SY DX DY
      generalize xs.getD k 0 = p at *
      generalize ys.getD k 0 = q at *
      go_wp2_with (refine wpList_farith rfl _ _ _ _ _ rfl rfl _ _ _ rfl rfl ?_; intro r0 j0 g0; have f0 := Lib.hid g0; clear g0; refine Stop.go ?_)
      refine Stop.mk ?_
      go_wp2_with (refine wpList_farith rfl _ _ _ _ _ rfl rfl _ _ _ rfl rfl ?_; intro r1 j1 g1; have f1 := Lib.hid g1; clear g1; refine Stop.go ?_)
      refine Stop.mk ?_
      go_wp2
      refine wp_region_loose (fun _ _ _ => True) (by kernel_rfl) (by kernel_rfl) ?_
      repeat (first | (refine wpLoose_farith rfl _ _ _ _ _ rfl rfl _ _ _ rfl rfl ?_; intro _ _) | (refine wpLoose_valK rfl ?_ (fun w1 hw1 => ?_) (fun K hK => ?_); rotate_left; (focus (obtain ⟨nq, rfl⟩ := hw1; go_simp; first | done | rfl)); go_simp; refine hK _ ?_; clear hK K))
      (refine wpLoose_nil ?_; rintro _ ⟨nq, rfl⟩)
      rename_i r2 h2 r3 h3
      go_wp2
      refine wp_region_loose (fun _ _ _ => True) (by kernel_rfl) (by kernel_rfl) ?_
      repeat (first | (refine wpLoose_farith rfl _ _ _ _ _ rfl rfl _ _ _ rfl rfl ?_; intro _ _) | (refine wpLoose_valK rfl ?_ (fun w1 hw1 => ?_) (fun K hK => ?_); rotate_left; (focus (obtain ⟨nq, rfl⟩ := hw1; go_simp; first | done | rfl)); go_simp; refine hK _ ?_; clear hK K))
      (refine wpLoose_nil ?_; rintro _ ⟨nq, rfl⟩)
      rename_i r4 h4 r5 h5
      go_wp2
      go_roundw
      case rel => exact ⟨k + 1, r0, r1, r3, r5, by omega, by go_num, rfl, rfl, rfl, rfl, Lib.hid ⟨by rw [f0.out.1, HV.out.1, SXk.out], by rw [f1.out.1, HV.out.2.1, SYk.out], DXk.out _ _ h2 h3, DYk.out _ _ h4 h5⟩, Lib.hid (by repeat (first | (with_reducible exact Bw.out) | (with_reducible refine below_drewN ?_ _)))⟩
      case measure => simp [intOf]; omega
    · obtain rfl : k = n := by omega
      have HA := Lib.hid (HV.out.1.trans ZE.out.1)
      have HB := Lib.hid (HV.out.2.1.trans ZE.out.2.1)
      have HC := Lib.hid (HV.out.2.2.1.trans ZE.out.2.2.1)
      have HD := Lib.hid (HV.out.2.2.2.trans ZE.out.2.2.2)
      clear HX HY ZE Z0 SX SY DX DY HV
      have fn := FN0.out
      cases Z : ez (lnE N A C)
      rotate_left
      · skip
        have E := Lib.hid (FN.out (show lnO N A B C D = false by unfold lnO; simp [Z]))
        have HZ := Lib.hid Z
        clear Z FN FY
        go_wp2_with (refine wpList_farith rfl _ _ _ _ _ rfl rfl _ _ _ rfl rfl ?_; intro r0 j0 g0; have f0 := Lib.hid g0; clear g0; refine Stop.go ?_)
        refine Stop.mk ?_
        go_wp2_with (refine wpList_farith rfl _ _ _ _ _ rfl rfl _ _ _ rfl rfl ?_; intro r1 j1 g1; have f1 := Lib.hid g1; clear g1; refine Stop.go ?_)
        refine Stop.mk ?_
        go_wp2_with (refine wpList_farith rfl _ _ _ _ _ rfl rfl _ _ _ rfl rfl ?_; intro r2 j2 g2; have f2 := Lib.hid g2; clear g2; refine Stop.go ?_)
        refine Stop.mk ?_
        have HE := Lib.hid (lnE_of HA.out HC.out f0.out f1.out f2.out)
        have oz := (eq0_of HE.out).trans HZ.out
        clear f0 f1 f2
        go_wp2
        go_ret3
        exact E.out _ (by repeat (first | (with_reducible exact Bw.out) | (with_reducible exact Bp.out) | (with_reducible refine below_drewN ?_ _) | (with_reducible exact Below.refl _ _)))
      · skip
        cases Y1 : fin .f32 (lnS N A B C D)
        · skip
          have E := Lib.hid (FN.out (show lnO N A B C D = false by unfold lnO; simp [Y1]))
          have HZ := Lib.hid Z
          have H1 := Lib.hid Y1
          clear Z Y1 FN FY
          go_wp2_with (refine wpList_farith rfl _ _ _ _ _ rfl rfl _ _ _ rfl rfl ?_; intro r0 j0 g0; have f0 := Lib.hid g0; clear g0; refine Stop.go ?_)
          refine Stop.mk ?_
          go_wp2_with (refine wpList_farith rfl _ _ _ _ _ rfl rfl _ _ _ rfl rfl ?_; intro r1 j1 g1; have f1 := Lib.hid g1; clear g1; refine Stop.go ?_)
          refine Stop.mk ?_
          go_wp2_with (refine wpList_farith rfl _ _ _ _ _ rfl rfl _ _ _ rfl rfl ?_; intro r2 j2 g2; have f2 := Lib.hid g2; clear g2; refine Stop.go ?_)
          refine Stop.mk ?_
          have HE := Lib.hid (lnE_of HA.out HC.out f0.out f1.out f2.out)
          have oz := (eq0_of HE.out).trans HZ.out
          clear f0 f1 f2
          go_wp2_with (refine wpList_farith rfl _ _ _ _ _ rfl rfl _ _ _ rfl rfl ?_; intro r3 j3 g3; have f3 := Lib.hid g3; clear g3; refine Stop.go ?_)
          refine Stop.mk ?_
          go_wp2_with (refine wpList_farith rfl _ _ _ _ _ rfl rfl _ _ _ rfl rfl ?_; intro r4 j4 g4; have f4 := Lib.hid g4; clear g4; refine Stop.go ?_)
          refine Stop.mk ?_
          go_wp2_with (refine wpList_farith rfl _ _ _ _ _ rfl rfl _ _ _ rfl rfl ?_; intro r5 j5 g5; have f5 := Lib.hid g5; clear g5; refine Stop.go ?_)
          refine Stop.mk ?_
          go_wp2_with (refine wpList_farith rfl _ _ _ _ _ rfl rfl _ _ _ rfl rfl ?_; intro r6 j6 g6; have f6 := Lib.hid g6; clear g6; refine Stop.go ?_)
          refine Stop.mk ?_
          have HS := Lib.hid (lnS_of HA.out HB.out HD.out HE.out f3.out f4.out f5.out f6.out)
          clear f3 f4 f5 f6
          go_wp2_with (refine wpList_farith rfl _ _ _ _ _ rfl rfl _ _ _ rfl rfl ?_; intro r7 j7 g7; have f7 := Lib.hid g7; clear g7; refine Stop.go ?_)
          refine Stop.mk ?_
          go_wp2_with (refine wpList_farith rfl _ _ _ _ _ rfl rfl _ _ _ rfl rfl ?_; intro r8 j8 g8; have f8 := Lib.hid g8; clear g8; refine Stop.go ?_)
          refine Stop.mk ?_
          go_wp2_with (refine wpList_farith rfl _ _ _ _ _ rfl rfl _ _ _ rfl rfl ?_; intro r9 j9 g9; have f9 := Lib.hid g9; clear g9; refine Stop.go ?_)
          refine Stop.mk ?_
          have HT := Lib.hid (lnT_of HA.out HB.out HS.out f7.out f8.out f9.out)
          clear f7 f8 f9
          go_wp2_with fail
          refine (specFinite_any r6 _).mono ?_
          rw [(fin_of HS.out).trans H1.out]
          rintro e w' ⟨rfl, m0, rfl⟩
          go_wp2
          go_ret3
          exact E.out _ (by repeat (first | (with_reducible exact Bw.out) | (with_reducible exact Bp.out) | (with_reducible refine below_drewN ?_ _) | (with_reducible exact Below.refl _ _)))
        · skip
          cases Y2 : fin .f32 (lnT N A B C D)
          · skip
            have E := Lib.hid (FN.out (show lnO N A B C D = false by unfold lnO; simp [Y2]))
            have HZ := Lib.hid Z
            have H1 := Lib.hid Y1
            have H2 := Lib.hid Y2
            clear Z Y1 Y2 FN FY
            go_wp2_with (refine wpList_farith rfl _ _ _ _ _ rfl rfl _ _ _ rfl rfl ?_; intro r0 j0 g0; have f0 := Lib.hid g0; clear g0; refine Stop.go ?_)
            refine Stop.mk ?_
            go_wp2_with (refine wpList_farith rfl _ _ _ _ _ rfl rfl _ _ _ rfl rfl ?_; intro r1 j1 g1; have f1 := Lib.hid g1; clear g1; refine Stop.go ?_)
            refine Stop.mk ?_
            go_wp2_with (refine wpList_farith rfl _ _ _ _ _ rfl rfl _ _ _ rfl rfl ?_; intro r2 j2 g2; have f2 := Lib.hid g2; clear g2; refine Stop.go ?_)
            refine Stop.mk ?_
            have HE := Lib.hid (lnE_of HA.out HC.out f0.out f1.out f2.out)
            have oz := (eq0_of HE.out).trans HZ.out
            clear f0 f1 f2
            go_wp2_with (refine wpList_farith rfl _ _ _ _ _ rfl rfl _ _ _ rfl rfl ?_; intro r3 j3 g3; have f3 := Lib.hid g3; clear g3; refine Stop.go ?_)
            refine Stop.mk ?_
            go_wp2_with (refine wpList_farith rfl _ _ _ _ _ rfl rfl _ _ _ rfl rfl ?_; intro r4 j4 g4; have f4 := Lib.hid g4; clear g4; refine Stop.go ?_)
            refine Stop.mk ?_
            go_wp2_with (refine wpList_farith rfl _ _ _ _ _ rfl rfl _ _ _ rfl rfl ?_; intro r5 j5 g5; have f5 := Lib.hid g5; clear g5; refine Stop.go ?_)
            refine Stop.mk ?_
            go_wp2_with (refine wpList_farith rfl _ _ _ _ _ rfl rfl _ _ _ rfl rfl ?_; intro r6 j6 g6; have f6 := Lib.hid g6; clear g6; refine Stop.go ?_)
            refine Stop.mk ?_
            have HS := Lib.hid (lnS_of HA.out HB.out HD.out HE.out f3.out f4.out f5.out f6.out)
            clear f3 f4 f5 f6
            go_wp2_with (refine wpList_farith rfl _ _ _ _ _ rfl rfl _ _ _ rfl rfl ?_; intro r7 j7 g7; have f7 := Lib.hid g7; clear g7; refine Stop.go ?_)
            refine Stop.mk ?_
            go_wp2_with (refine wpList_farith rfl _ _ _ _ _ rfl rfl _ _ _ rfl rfl ?_; intro r8 j8 g8; have f8 := Lib.hid g8; clear g8; refine Stop.go ?_)
            refine Stop.mk ?_
            go_wp2_with (refine wpList_farith rfl _ _ _ _ _ rfl rfl _ _ _ rfl rfl ?_; intro r9 j9 g9; have f9 := Lib.hid g9; clear g9; refine Stop.go ?_)
            refine Stop.mk ?_
            have HT := Lib.hid (lnT_of HA.out HB.out HS.out f7.out f8.out f9.out)
            clear f7 f8 f9
            go_wp2_with fail
            refine (specFinite_any r6 _).mono ?_
            rw [(fin_of HS.out).trans H1.out]
            rintro e w' ⟨rfl, m0, rfl⟩
            go_wp2_with fail
            refine (specFinite_any r9 _).mono ?_
            rw [(fin_of HT.out).trans H2.out]
            rintro e w' ⟨rfl, m1, rfl⟩
            go_wp2
            go_ret3
            exact E.out _ (by repeat (first | (with_reducible exact Bw.out) | (with_reducible exact Bp.out) | (with_reducible refine below_drewN ?_ _) | (with_reducible exact Below.refl _ _)))
          · skip
            have E := Lib.hid (FY.out (show lnO N A B C D = true by unfold lnO; simp [Z, Y1, Y2]))
            have HZ := Lib.hid Z
            have H1 := Lib.hid Y1
            have H2 := Lib.hid Y2
            clear Z Y1 Y2 FN FY
            go_wp2_with (refine wpList_farith rfl _ _ _ _ _ rfl rfl _ _ _ rfl rfl ?_; intro r0 j0 g0; have f0 := Lib.hid g0; clear g0; refine Stop.go ?_)
            refine Stop.mk ?_
            go_wp2_with (refine wpList_farith rfl _ _ _ _ _ rfl rfl _ _ _ rfl rfl ?_; intro r1 j1 g1; have f1 := Lib.hid g1; clear g1; refine Stop.go ?_)
            refine Stop.mk ?_
            go_wp2_with (refine wpList_farith rfl _ _ _ _ _ rfl rfl _ _ _ rfl rfl ?_; intro r2 j2 g2; have f2 := Lib.hid g2; clear g2; refine Stop.go ?_)
            refine Stop.mk ?_
            have HE := Lib.hid (lnE_of HA.out HC.out f0.out f1.out f2.out)
            have oz := (eq0_of HE.out).trans HZ.out
            clear f0 f1 f2
            go_wp2_with (refine wpList_farith rfl _ _ _ _ _ rfl rfl _ _ _ rfl rfl ?_; intro r3 j3 g3; have f3 := Lib.hid g3; clear g3; refine Stop.go ?_)
            refine Stop.mk ?_
            go_wp2_with (refine wpList_farith rfl _ _ _ _ _ rfl rfl _ _ _ rfl rfl ?_; intro r4 j4 g4; have f4 := Lib.hid g4; clear g4; refine Stop.go ?_)
            refine Stop.mk ?_
            go_wp2_with (refine wpList_farith rfl _ _ _ _ _ rfl rfl _ _ _ rfl rfl ?_; intro r5 j5 g5; have f5 := Lib.hid g5; clear g5; refine Stop.go ?_)
            refine Stop.mk ?_
            go_wp2_with (refine wpList_farith rfl _ _ _ _ _ rfl rfl _ _ _ rfl rfl ?_; intro r6 j6 g6; have f6 := Lib.hid g6; clear g6; refine Stop.go ?_)
            refine Stop.mk ?_
            have HS := Lib.hid (lnS_of HA.out HB.out HD.out HE.out f3.out f4.out f5.out f6.out)
            clear f3 f4 f5 f6
            go_wp2_with (refine wpList_farith rfl _ _ _ _ _ rfl rfl _ _ _ rfl rfl ?_; intro r7 j7 g7; have f7 := Lib.hid g7; clear g7; refine Stop.go ?_)
            refine Stop.mk ?_
            go_wp2_with (refine wpList_farith rfl _ _ _ _ _ rfl rfl _ _ _ rfl rfl ?_; intro r8 j8 g8; have f8 := Lib.hid g8; clear g8; refine Stop.go ?_)
            refine Stop.mk ?_
            go_wp2_with (refine wpList_farith rfl _ _ _ _ _ rfl rfl _ _ _ rfl rfl ?_; intro r9 j9 g9; have f9 := Lib.hid g9; clear g9; refine Stop.go ?_)
            refine Stop.mk ?_
            have HT := Lib.hid (lnT_of HA.out HB.out HS.out f7.out f8.out f9.out)
            clear f7 f8 f9
            go_wp2_with fail
            refine (specFinite_any r6 _).mono ?_
            rw [(fin_of HS.out).trans H1.out]
            rintro e w' ⟨rfl, m0, rfl⟩
            go_wp2_with fail
            refine (specFinite_any r9 _).mono ?_
            rw [(fin_of HT.out).trans H2.out]
            rintro e w' ⟨rfl, m1, rfl⟩
            go_wp2
            go_ret3
            exact E.out r6 r9 _ HS.out HT.out (by repeat (first | (with_reducible exact Bw.out) | (with_reducible exact Bp.out) | (with_reducible refine below_drewN ?_ _) | (with_reducible exact Below.refl _ _)))

theorem lnB_yes {xs ys : List Nat} (h : lnP xs ys = true) : lnB xs ys = lnO (lnN xs.length) (sumF xs) (sumF ys) (dotTo xs xs xs.length) (dotTo xs ys xs.length) := by unfold lnB; rw [h]; rfl
set_option maxHeartbeats 1600000 in
theorem specFit_any (v v' : Value) (xs ys : List Nat) (w : World) (h : FRow w v xs) (h' : FRow w v' ys) : Calls Try.prog 28 #[v, v'] w (Duo (bif lnB xs ys then lnS (lnN xs.length) (sumF xs) (sumF ys) (dotTo xs xs xs.length) (dotTo xs ys xs.length) else 0) (bif lnB xs ys then lnT (lnN xs.length) (sumF xs) (sumF ys) (dotTo xs xs xs.length) (dotTo xs ys xs.length) else 0) (lnB xs ys) w) := by
  have HX := Lib.hid (fun w1 (hb : Below w.heap.size w w1) => specRds_any v xs w1 (h.below hb))
  have HY := Lib.hid (fun w1 (hb : Below w.heap.size w w1) => specRds_any v' ys w1 (h'.below hb))
  have HG := Lib.hid (fun (e : lnP xs ys = true) w1 (hb : Below w.heap.size w w1) => specLine_any v v' xs ys w1 (h.below hb) (h'.below hb) (lnP_of e).1 (lnP_of e).2.1 (lnP_of e).2.2 _ _ _ _ _ rfl rfl rfl rfl rfl)
  have FN := Lib.hid (fun (e : lnP xs ys = false) w1 (hb : Below w.heap.size w w1) => @Duo.no (lnS (lnN xs.length) (sumF xs) (sumF ys) (dotTo xs xs xs.length) (dotTo xs ys xs.length)) (lnT (lnN xs.length) (sumF xs) (sumF ys) (dotTo xs xs xs.length) (dotTo xs ys xs.length)) (lnB xs ys) w w1 (by unfold lnB; rw [e]; rfl) hb)
  have LY := Lib.hid (fun (e : lnP xs ys = true) => lnB_yes e)
  have PE := Lib.hid (show lnP xs ys = (rds xs && rds ys && decide (xs.length = ys.length) && decide (2 ≤ xs.length)) from rfl)
  have Bw := Lib.hid (Below.refl w.heap.size w)
  have gL := h.len
  have gM := h'.len
  obtain ⟨a, cap, rfl⟩ := h.shape
  obtain ⟨a', cap', rfl⟩ := h'.shape
  clear h h'
  generalize lnS (lnN xs.length) (sumF xs) (sumF ys) (dotTo xs xs xs.length) (dotTo xs ys xs.length) = U at *
  generalize lnT (lnN xs.length) (sumF xs) (sumF ys) (dotTo xs xs xs.length) (dotTo xs ys xs.length) = V at *
  generalize lnO (lnN xs.length) (sumF xs) (sumF ys) (dotTo xs xs xs.length) (dotTo xs ys xs.length) = O at *
  generalize lnB xs ys = Q at *
  generalize lnP xs ys = PP at *
  generalize rds xs = RX at *
  generalize rds ys = RY at *
  generalize xs.length = n at *
  generalize ys.length = m at *
  cases RX
  · skip
    have E := Lib.hid (FN.out (PE.out.trans (by simp : _ = false)))
    clear PE FN HG LY
    go_enter Try.func28, Try.ntmps28
    go_wp2_with fail
    refine (HX.out _ Bw.out).mono ?_
    rintro e w1 ⟨rfl, hb⟩
    have Bw := Lib.hid (below_step Bw.out hb)
    clear hb
    go_wp2
    go_ret3
    exact E.out _ (by repeat (first | (with_reducible exact Bw.out) | (with_reducible exact Bp.out) | (with_reducible refine below_drewN ?_ _) | (with_reducible exact Below.refl _ _)))
  · skip
    cases RY
    · skip
      have E := Lib.hid (FN.out (PE.out.trans (by simp : _ = false)))
      clear PE FN HG LY
      go_enter Try.func28, Try.ntmps28
      go_wp2_with fail
      refine (HX.out _ Bw.out).mono ?_
      rintro e w1 ⟨rfl, hb⟩
      have Bw := Lib.hid (below_step Bw.out hb)
      clear hb
      go_wp2_with fail
      refine (HY.out _ Bw.out).mono ?_
      rintro e w2 ⟨rfl, hb⟩
      have Bw := Lib.hid (below_step Bw.out hb)
      clear hb
      go_wp2
      go_ret3
      exact E.out _ (by repeat (first | (with_reducible exact Bw.out) | (with_reducible exact Bp.out) | (with_reducible refine below_drewN ?_ _) | (with_reducible exact Below.refl _ _)))
    · skip
      cases B2 : decide (n = m)
      · skip
        have E := Lib.hid (FN.out (PE.out.trans (by rw [B2]; simp : _ = false)))
        have o2_0 : ((n : Int) != (m : Int)) = true := by have hq := of_decide_eq_false B2; simp; omega
        have o2_1 : ((n : Int) == (m : Int)) = false := by have hq := of_decide_eq_false B2; simp; omega
        clear B2
        clear PE FN HG LY
        go_enter Try.func28, Try.ntmps28
        go_wp2_with fail
        refine (HX.out _ Bw.out).mono ?_
        rintro e w1 ⟨rfl, hb⟩
        have Bw := Lib.hid (below_step Bw.out hb)
        clear hb
        go_wp2_with fail
        refine (HY.out _ Bw.out).mono ?_
        rintro e w2 ⟨rfl, hb⟩
        have Bw := Lib.hid (below_step Bw.out hb)
        clear hb
        go_wp2
        go_ret3
        exact E.out _ (by repeat (first | (with_reducible exact Bw.out) | (with_reducible exact Bp.out) | (with_reducible refine below_drewN ?_ _) | (with_reducible exact Below.refl _ _)))
      · skip
        cases B3 : decide (2 ≤ n)
        · skip
          have E := Lib.hid (FN.out (PE.out.trans (by rw [B3]; simp : _ = false)))
          have o2_0 : ((n : Int) != (m : Int)) = false := by have hq := of_decide_eq_true B2; simp; omega
          have o2_1 : ((n : Int) == (m : Int)) = true := by have hq := of_decide_eq_true B2; simp; omega
          have o3_0 : decide ((n : Int) < (2 : Int)) = true := by have hq := of_decide_eq_false B3; simp; omega
          clear B2 B3
          clear PE FN HG LY
          go_enter Try.func28, Try.ntmps28
          go_wp2_with fail
          refine (HX.out _ Bw.out).mono ?_
          rintro e w1 ⟨rfl, hb⟩
          have Bw := Lib.hid (below_step Bw.out hb)
          clear hb
          go_wp2_with fail
          refine (HY.out _ Bw.out).mono ?_
          rintro e w2 ⟨rfl, hb⟩
          have Bw := Lib.hid (below_step Bw.out hb)
          clear hb
          go_wp2
          go_ret3
          exact E.out _ (by repeat (first | (with_reducible exact Bw.out) | (with_reducible exact Bp.out) | (with_reducible refine below_drewN ?_ _) | (with_reducible exact Below.refl _ _)))
        · skip
          have o2_0 : ((n : Int) != (m : Int)) = false := by have hq := of_decide_eq_true B2; simp; omega
          have o2_1 : ((n : Int) == (m : Int)) = true := by have hq := of_decide_eq_true B2; simp; omega
          have o3_0 : decide ((n : Int) < (2 : Int)) = false := by have hq := of_decide_eq_true B3; simp; omega
          have e := PE.out.trans (by rw [B2, B3]; rfl : _ = true)
          have HG2 := Lib.hid (HG.out e)
          have EY := Lib.hid (LY.out e)
          clear PE FN HG LY e B2 B3
          rw [EY.out]
          clear EY
          go_enter Try.func28, Try.ntmps28
          go_wp2_with fail
          refine (HX.out _ Bw.out).mono ?_
          rintro e w1 ⟨rfl, hb⟩
          have Bw := Lib.hid (below_step Bw.out hb)
          clear hb
          go_wp2_with fail
          refine (HY.out _ Bw.out).mono ?_
          rintro e w2 ⟨rfl, hb⟩
          have Bw := Lib.hid (below_step Bw.out hb)
          clear hb
          go_wp2_with fail
          refine (HG2.out _ Bw.out).mono ?_
          rintro e w3 ⟨r, s, hr, hs, rfl, hb⟩
          have R := Lib.hid hr
          have S := Lib.hid hs
          have Bw := Lib.hid (below_step Bw.out hb)
          clear hb hr hs
          go_wp2
          go_ret3
          exact ⟨r, s, R.out, S.out, rfl, Bw.out⟩

theorem points_any (v v' : Value) (xs ys : List Nat) (w : World) (h : FRow w v xs) (h' : FRow w v' ys) : Calls Try.prog 59 #[v, v'] w (BolB (rds xs && rds ys && decide (xs.length = ys.length)) w) := by
  have HX := Lib.hid (fun w1 (hb : Below w.heap.size w w1) => implRds_any v xs w1 (h.below hb))
  have HY := Lib.hid (fun w1 (hb : Below w.heap.size w w1) => implRds_any v' ys w1 (h'.below hb))
  have Bw := Lib.hid (Below.refl w.heap.size w)
  obtain ⟨a, cap, rfl⟩ := h.shape
  obtain ⟨a', cap', rfl⟩ := h'.shape
  clear h h'
  generalize rds xs = RX at *
  generalize rds ys = RY at *
  generalize xs.length = n at *
  generalize ys.length = m at *
  cases RX
  · go_enter Try.func59, Try.ntmps59
    go_wp2_with fail
    refine (HX.out _ Bw.out).mono ?_
    rintro e w1 ⟨rfl, hb⟩
    have Bw := Lib.hid (below_step Bw.out hb)
    clear hb
    go_wp2
    go_ret
    exact ⟨ret_b (by simp), Bw.out⟩
  · cases RY
    · go_enter Try.func59, Try.ntmps59
      go_wp2_with fail
      refine (HX.out _ Bw.out).mono ?_
      rintro e w1 ⟨rfl, hb⟩
      have Bw := Lib.hid (below_step Bw.out hb)
      clear hb
      go_wp2_with fail
      refine (HY.out _ Bw.out).mono ?_
      rintro e w2 ⟨rfl, hb⟩
      have Bw := Lib.hid (below_step Bw.out hb)
      clear hb
      go_wp2
      go_ret
      exact ⟨ret_b (by simp), Bw.out⟩
    · cases D : decide (n = m)
      · have o : ((n : Int) == (m : Int)) = false := by have hq := of_decide_eq_false D; simp; omega
        clear D
        go_enter Try.func59, Try.ntmps59
        go_wp2_with fail
        refine (HX.out _ Bw.out).mono ?_
        rintro e w1 ⟨rfl, hb⟩
        have Bw := Lib.hid (below_step Bw.out hb)
        clear hb
        go_wp2_with fail
        refine (HY.out _ Bw.out).mono ?_
        rintro e w2 ⟨rfl, hb⟩
        have Bw := Lib.hid (below_step Bw.out hb)
        clear hb
        go_wp2
        go_ret
        exact ⟨ret_b (by simp), Bw.out⟩
      · have o : ((n : Int) == (m : Int)) = true := by have hq := of_decide_eq_true D; simp; omega
        clear D
        go_enter Try.func59, Try.ntmps59
        go_wp2_with fail
        refine (HX.out _ Bw.out).mono ?_
        rintro e w1 ⟨rfl, hb⟩
        have Bw := Lib.hid (below_step Bw.out hb)
        clear hb
        go_wp2_with fail
        refine (HY.out _ Bw.out).mono ?_
        rintro e w2 ⟨rfl, hb⟩
        have Bw := Lib.hid (below_step Bw.out hb)
        clear hb
        go_wp2
        go_ret
        exact ⟨ret_b (by simp), Bw.out⟩

set_option maxRecDepth 100000 in
set_option maxHeartbeats 4000000 in
theorem implFit_any (v v' : Value) (xs ys : List Nat) (w : World) (h : FRow w v xs) (h' : FRow w v' ys) : Calls Try.prog 29 #[v, v'] w (Duo (bif lnB xs ys then lnS (lnN xs.length) (sumF xs) (sumF ys) (dotTo xs xs xs.length) (dotTo xs ys xs.length) else 0) (bif lnB xs ys then lnT (lnN xs.length) (sumF xs) (sumF ys) (dotTo xs xs xs.length) (dotTo xs ys xs.length) else 0) (lnB xs ys) w) := by
  have HPt := Lib.hid (fun w1 (hb : Below w.heap.size w w1) => points_any v v' xs ys w1 (h.below hb) (h'.below hb))
  have PL := Lib.hid (fun e : lnP xs ys = true => lnP_of e)
  have QA := Lib.hid (fun (hn : xs.length ≤ 128) w1 (hb : Below w.heap.size w w1) => implSum_few v xs w1 (h.below hb) (by omega))
  have QB := Lib.hid (fun (hn : ys.length ≤ 128) w1 (hb : Below w.heap.size w w1) => implSum_few v' ys w1 (h'.below hb) (by omega))
  have QC := Lib.hid (fun (hn : xs.length ≤ 128) w1 (hb : Below w.heap.size w w1) => implDot_any v v xs xs w1 (h.below hb) (h.below hb) rfl (by omega))
  have QD := Lib.hid (fun (hl : xs.length = ys.length) (hn : xs.length ≤ 128) w1 (hb : Below w.heap.size w w1) => implDot_any v v' xs ys w1 (h.below hb) (h'.below hb) hl (by omega))
  have FN := Lib.hid (fun (e : lnP xs ys = false) w1 (hb : Below w.heap.size w w1) => @Duo.no (lnS (lnN xs.length) (sumF xs) (sumF ys) (dotTo xs xs xs.length) (dotTo xs ys xs.length)) (lnT (lnN xs.length) (sumF xs) (sumF ys) (dotTo xs xs xs.length) (dotTo xs ys xs.length)) (lnB xs ys) w w1 (by unfold lnB; rw [e]; rfl) hb)
  have LY := Lib.hid (fun (e : lnP xs ys = true) => lnB_yes e)
  have PE := Lib.hid (show lnP xs ys = ((rds xs && rds ys && decide (xs.length = ys.length)) && decide (2 ≤ xs.length)) from rfl)
  have Bw := Lib.hid (Below.refl w.heap.size w)
  have gL := h.len
  have NE := Lib.hid (show floatOfInt .f32 (xs.length : Int) = lnN xs.length from rfl)
  obtain ⟨a, cap, rfl⟩ := h.shape
  obtain ⟨a', cap', rfl⟩ := h'.shape
  clear h h'
  generalize (rds xs && rds ys && decide (xs.length = ys.length)) = RX at *
  cases RX
  · have E := Lib.hid (FN.out (PE.out.trans rfl))
    clear PE FN LY PL QA QB QC QD NE
    generalize lnS (lnN xs.length) (sumF xs) (sumF ys) (dotTo xs xs xs.length) (dotTo xs ys xs.length) = U at *
    generalize lnT (lnN xs.length) (sumF xs) (sumF ys) (dotTo xs xs xs.length) (dotTo xs ys xs.length) = V at *
    generalize lnB xs ys = Q at *
    generalize xs.length = n at *
    go_enter Try.func29, Try.ntmps29
    go_wp2_with fail
    refine (HPt.out _ Bw.out).mono ?_
    rintro e w1 ⟨rfl, hb⟩
    have Bw := Lib.hid (below_step Bw.out hb)
    clear hb
    go_wp2
    go_ret3
    exact E.out _ Bw.out
  · cases B1 : decide (2 ≤ xs.length)
    · have E := Lib.hid (FN.out (PE.out.trans (by rw [B1]; rfl)))
      have o1 : decide ((xs.length : Int) < (2 : Int)) = true := by have hq := of_decide_eq_false B1; simp; omega
      clear PE FN LY PL QA QB QC QD NE B1
      generalize lnS (lnN xs.length) (sumF xs) (sumF ys) (dotTo xs xs xs.length) (dotTo xs ys xs.length) = U at *
      generalize lnT (lnN xs.length) (sumF xs) (sumF ys) (dotTo xs xs xs.length) (dotTo xs ys xs.length) = V at *
      generalize lnB xs ys = Q at *
      generalize xs.length = n at *
      go_enter Try.func29, Try.ntmps29
      go_wp2_with fail
      refine (HPt.out _ Bw.out).mono ?_
      rintro e w1 ⟨rfl, hb⟩
      have Bw := Lib.hid (below_step Bw.out hb)
      clear hb
      go_wp2
      go_ret3
      exact E.out _ Bw.out
    · have e := PE.out.trans (by rw [B1]; rfl : _ = true)
      have o1 : decide ((xs.length : Int) < (2 : Int)) = false := by have hq := of_decide_eq_true B1; simp; omega
      obtain ⟨hl, h2, h128⟩ := PL.out e
      have QA1 := Lib.hid (QA.out h128)
      have QB1 := Lib.hid (QB.out (by omega))
      have QC1 := Lib.hid (QC.out h128)
      have QD1 := Lib.hid (QD.out hl.symm h128)
      rw [LY.out e]
      clear PE FN LY PL QA QB QC QD e B1 hl
      generalize hNN : lnN xs.length = N at *
      clear hNN
      generalize sumF xs = A at *
      generalize sumF ys = B at *
      generalize dotTo xs xs xs.length = C at *
      generalize dotTo xs ys xs.length = D at *
      have FN := Lib.hid (fun (e : lnO N A B C D = false) w1 (hb : Below w.heap.size w w1) => @Duo.no (lnS N A B C D) (lnT N A B C D) _ w w1 e hb)
      have FY := Lib.hid (fun (e : lnO N A B C D = true) r s w1 hr hs (hb : Below w.heap.size w w1) => @Duo.yes (lnS N A B C D) (lnT N A B C D) r s _ w w1 e hr hs hb)
      generalize (bif lnO N A B C D then lnS N A B C D else 0) = U at *
      generalize (bif lnO N A B C D then lnT N A B C D else 0) = V at *
      generalize xs.length = n at *
      have fn := NE.out
      go_enter Try.func29, Try.ntmps29
      go_wp2_with fail
      refine (HPt.out _ Bw.out).mono ?_
      rintro e w1 ⟨rfl, hb⟩
      have Bw := Lib.hid (below_step Bw.out hb)
      have Bp := Lib.hid Bw.out
      clear hb HPt
      go_wp2_with fail
      refine (QA1.out _ (by repeat (first | (with_reducible exact Bw.out) | (with_reducible exact Bp.out) | (with_reducible refine below_drewN ?_ _) | (with_reducible exact Below.refl _ _)))).mono ?_
      rintro e w' ⟨ra, na, ha, rfl, rfl⟩
      have HA := Lib.hid ha
      have Bw := Lib.hid (below_drewN Bw.out na)
      clear ha QA1
      go_wp2_with fail
      refine (QB1.out _ (by repeat (first | (with_reducible exact Bw.out) | (with_reducible exact Bp.out) | (with_reducible refine below_drewN ?_ _) | (with_reducible exact Below.refl _ _)))).mono ?_
      rintro e w' ⟨rb, nb, hb, rfl, rfl⟩
      have HB := Lib.hid hb
      have Bw := Lib.hid (below_drewN Bw.out nb)
      clear hb QB1
      go_wp2_with fail
      refine (QC1.out _ (by repeat (first | (with_reducible exact Bw.out) | (with_reducible exact Bp.out) | (with_reducible refine below_drewN ?_ _) | (with_reducible exact Below.refl _ _)))).mono ?_
      rintro e w' ⟨rc, nc, hc, rfl, rfl⟩
      have HC := Lib.hid hc
      have Bw := Lib.hid (below_drewN Bw.out nc)
      clear hc QC1
      go_wp2_with fail
      refine (QD1.out _ (by repeat (first | (with_reducible exact Bw.out) | (with_reducible exact Bp.out) | (with_reducible refine below_drewN ?_ _) | (with_reducible exact Below.refl _ _)))).mono ?_
      rintro e w' ⟨rd, nd, hd, rfl, rfl⟩
      have HD := Lib.hid hd
      have Bw := Lib.hid (below_drewN Bw.out nd)
      clear hd QD1
      cases Z : ez (lnE N A C)
      rotate_left
      · skip
        have E := Lib.hid (FN.out (show lnO N A B C D = false by unfold lnO; simp [Z]))
        have HZ := Lib.hid Z
        clear Z FN FY
        go_wp2_with (refine wpList_farith rfl _ _ _ _ _ rfl rfl _ _ _ rfl rfl ?_; intro r0 j0 g0; have f0 := Lib.hid g0; clear g0; refine Stop.go ?_)
        refine Stop.mk ?_
        go_wp2_with (refine wpList_farith rfl _ _ _ _ _ rfl rfl _ _ _ rfl rfl ?_; intro r1 j1 g1; have f1 := Lib.hid g1; clear g1; refine Stop.go ?_)
        refine Stop.mk ?_
        go_wp2_with (refine wpList_farith rfl _ _ _ _ _ rfl rfl _ _ _ rfl rfl ?_; intro r2 j2 g2; have f2 := Lib.hid g2; clear g2; refine Stop.go ?_)
        refine Stop.mk ?_
        have HE := Lib.hid (lnE_of HA.out HC.out f0.out f1.out f2.out)
        have oz := (eq0_of HE.out).trans HZ.out
        clear f0 f1 f2
        go_wp2
        go_ret3
        exact E.out _ (by repeat (first | (with_reducible exact Bw.out) | (with_reducible exact Bp.out) | (with_reducible refine below_drewN ?_ _) | (with_reducible exact Below.refl _ _)))
      · skip
        cases Y1 : fin .f32 (lnS N A B C D)
        · skip
          have E := Lib.hid (FN.out (show lnO N A B C D = false by unfold lnO; simp [Y1]))
          have HZ := Lib.hid Z
          have H1 := Lib.hid Y1
          clear Z Y1 FN FY
          go_wp2_with (refine wpList_farith rfl _ _ _ _ _ rfl rfl _ _ _ rfl rfl ?_; intro r0 j0 g0; have f0 := Lib.hid g0; clear g0; refine Stop.go ?_)
          refine Stop.mk ?_
          go_wp2_with (refine wpList_farith rfl _ _ _ _ _ rfl rfl _ _ _ rfl rfl ?_; intro r1 j1 g1; have f1 := Lib.hid g1; clear g1; refine Stop.go ?_)
          refine Stop.mk ?_
          go_wp2_with (refine wpList_farith rfl _ _ _ _ _ rfl rfl _ _ _ rfl rfl ?_; intro r2 j2 g2; have f2 := Lib.hid g2; clear g2; refine Stop.go ?_)
          refine Stop.mk ?_
          have HE := Lib.hid (lnE_of HA.out HC.out f0.out f1.out f2.out)
          have oz := (eq0_of HE.out).trans HZ.out
          clear f0 f1 f2
          go_wp2_with (refine wpList_farith rfl _ _ _ _ _ rfl rfl _ _ _ rfl rfl ?_; intro r3 j3 g3; have f3 := Lib.hid g3; clear g3; refine Stop.go ?_)
          refine Stop.mk ?_
          go_wp2_with (refine wpList_farith rfl _ _ _ _ _ rfl rfl _ _ _ rfl rfl ?_; intro r4 j4 g4; have f4 := Lib.hid g4; clear g4; refine Stop.go ?_)
          refine Stop.mk ?_
          go_wp2_with (refine wpList_farith rfl _ _ _ _ _ rfl rfl _ _ _ rfl rfl ?_; intro r5 j5 g5; have f5 := Lib.hid g5; clear g5; refine Stop.go ?_)
          refine Stop.mk ?_
          go_wp2_with (refine wpList_farith rfl _ _ _ _ _ rfl rfl _ _ _ rfl rfl ?_; intro r6 j6 g6; have f6 := Lib.hid g6; clear g6; refine Stop.go ?_)
          refine Stop.mk ?_
          have HS := Lib.hid (lnS_of HA.out HB.out HD.out HE.out f3.out f4.out f5.out f6.out)
          clear f3 f4 f5 f6
          go_wp2_with (refine wpList_farith rfl _ _ _ _ _ rfl rfl _ _ _ rfl rfl ?_; intro r7 j7 g7; have f7 := Lib.hid g7; clear g7; refine Stop.go ?_)
          refine Stop.mk ?_
          go_wp2_with (refine wpList_farith rfl _ _ _ _ _ rfl rfl _ _ _ rfl rfl ?_; intro r8 j8 g8; have f8 := Lib.hid g8; clear g8; refine Stop.go ?_)
          refine Stop.mk ?_
          go_wp2_with (refine wpList_farith rfl _ _ _ _ _ rfl rfl _ _ _ rfl rfl ?_; intro r9 j9 g9; have f9 := Lib.hid g9; clear g9; refine Stop.go ?_)
          refine Stop.mk ?_
          have HT := Lib.hid (lnT_of HA.out HB.out HS.out f7.out f8.out f9.out)
          clear f7 f8 f9
          go_wp2_with fail
          refine (implFinite_any r6 _).mono ?_
          rw [(fin_of HS.out).trans H1.out]
          rintro e w' ⟨rfl, m0, rfl⟩
          go_wp2
          go_ret3
          exact E.out _ (by repeat (first | (with_reducible exact Bw.out) | (with_reducible exact Bp.out) | (with_reducible refine below_drewN ?_ _) | (with_reducible exact Below.refl _ _)))
        · skip
          cases Y2 : fin .f32 (lnT N A B C D)
          · skip
            have E := Lib.hid (FN.out (show lnO N A B C D = false by unfold lnO; simp [Y2]))
            have HZ := Lib.hid Z
            have H1 := Lib.hid Y1
            have H2 := Lib.hid Y2
            clear Z Y1 Y2 FN FY
            go_wp2_with (refine wpList_farith rfl _ _ _ _ _ rfl rfl _ _ _ rfl rfl ?_; intro r0 j0 g0; have f0 := Lib.hid g0; clear g0; refine Stop.go ?_)
            refine Stop.mk ?_
            go_wp2_with (refine wpList_farith rfl _ _ _ _ _ rfl rfl _ _ _ rfl rfl ?_; intro r1 j1 g1; have f1 := Lib.hid g1; clear g1; refine Stop.go ?_)
            refine Stop.mk ?_
            go_wp2_with (refine wpList_farith rfl _ _ _ _ _ rfl rfl _ _ _ rfl rfl ?_; intro r2 j2 g2; have f2 := Lib.hid g2; clear g2; refine Stop.go ?_)
            refine Stop.mk ?_
            have HE := Lib.hid (lnE_of HA.out HC.out f0.out f1.out f2.out)
            have oz := (eq0_of HE.out).trans HZ.out
            clear f0 f1 f2
            go_wp2_with (refine wpList_farith rfl _ _ _ _ _ rfl rfl _ _ _ rfl rfl ?_; intro r3 j3 g3; have f3 := Lib.hid g3; clear g3; refine Stop.go ?_)
            refine Stop.mk ?_
            go_wp2_with (refine wpList_farith rfl _ _ _ _ _ rfl rfl _ _ _ rfl rfl ?_; intro r4 j4 g4; have f4 := Lib.hid g4; clear g4; refine Stop.go ?_)
            refine Stop.mk ?_
            go_wp2_with (refine wpList_farith rfl _ _ _ _ _ rfl rfl _ _ _ rfl rfl ?_; intro r5 j5 g5; have f5 := Lib.hid g5; clear g5; refine Stop.go ?_)
            refine Stop.mk ?_
            go_wp2_with (refine wpList_farith rfl _ _ _ _ _ rfl rfl _ _ _ rfl rfl ?_; intro r6 j6 g6; have f6 := Lib.hid g6; clear g6; refine Stop.go ?_)
            refine Stop.mk ?_
            have HS := Lib.hid (lnS_of HA.out HB.out HD.out HE.out f3.out f4.out f5.out f6.out)
            clear f3 f4 f5 f6
            go_wp2_with (refine wpList_farith rfl _ _ _ _ _ rfl rfl _ _ _ rfl rfl ?_; intro r7 j7 g7; have f7 := Lib.hid g7; clear g7; refine Stop.go ?_)
            refine Stop.mk ?_
            go_wp2_with (refine wpList_farith rfl _ _ _ _ _ rfl rfl _ _ _ rfl rfl ?_; intro r8 j8 g8; have f8 := Lib.hid g8; clear g8; refine Stop.go ?_)
            refine Stop.mk ?_
            go_wp2_with (refine wpList_farith rfl _ _ _ _ _ rfl rfl _ _ _ rfl rfl ?_; intro r9 j9 g9; have f9 := Lib.hid g9; clear g9; refine Stop.go ?_)
            refine Stop.mk ?_
            have HT := Lib.hid (lnT_of HA.out HB.out HS.out f7.out f8.out f9.out)
            clear f7 f8 f9
            go_wp2_with fail
            refine (implFinite_any r6 _).mono ?_
            rw [(fin_of HS.out).trans H1.out]
            rintro e w' ⟨rfl, m0, rfl⟩
            go_wp2_with fail
            refine (implFinite_any r9 _).mono ?_
            rw [(fin_of HT.out).trans H2.out]
            rintro e w' ⟨rfl, m1, rfl⟩
            go_wp2
            go_ret3
            exact E.out _ (by repeat (first | (with_reducible exact Bw.out) | (with_reducible exact Bp.out) | (with_reducible refine below_drewN ?_ _) | (with_reducible exact Below.refl _ _)))
          · skip
            have E := Lib.hid (FY.out (show lnO N A B C D = true by unfold lnO; simp [Z, Y1, Y2]))
            have HZ := Lib.hid Z
            have H1 := Lib.hid Y1
            have H2 := Lib.hid Y2
            clear Z Y1 Y2 FN FY
            go_wp2_with (refine wpList_farith rfl _ _ _ _ _ rfl rfl _ _ _ rfl rfl ?_; intro r0 j0 g0; have f0 := Lib.hid g0; clear g0; refine Stop.go ?_)
            refine Stop.mk ?_
            go_wp2_with (refine wpList_farith rfl _ _ _ _ _ rfl rfl _ _ _ rfl rfl ?_; intro r1 j1 g1; have f1 := Lib.hid g1; clear g1; refine Stop.go ?_)
            refine Stop.mk ?_
            go_wp2_with (refine wpList_farith rfl _ _ _ _ _ rfl rfl _ _ _ rfl rfl ?_; intro r2 j2 g2; have f2 := Lib.hid g2; clear g2; refine Stop.go ?_)
            refine Stop.mk ?_
            have HE := Lib.hid (lnE_of HA.out HC.out f0.out f1.out f2.out)
            have oz := (eq0_of HE.out).trans HZ.out
            clear f0 f1 f2
            go_wp2_with (refine wpList_farith rfl _ _ _ _ _ rfl rfl _ _ _ rfl rfl ?_; intro r3 j3 g3; have f3 := Lib.hid g3; clear g3; refine Stop.go ?_)
            refine Stop.mk ?_
            go_wp2_with (refine wpList_farith rfl _ _ _ _ _ rfl rfl _ _ _ rfl rfl ?_; intro r4 j4 g4; have f4 := Lib.hid g4; clear g4; refine Stop.go ?_)
            refine Stop.mk ?_
            go_wp2_with (refine wpList_farith rfl _ _ _ _ _ rfl rfl _ _ _ rfl rfl ?_; intro r5 j5 g5; have f5 := Lib.hid g5; clear g5; refine Stop.go ?_)
            refine Stop.mk ?_
            go_wp2_with (refine wpList_farith rfl _ _ _ _ _ rfl rfl _ _ _ rfl rfl ?_; intro r6 j6 g6; have f6 := Lib.hid g6; clear g6; refine Stop.go ?_)
            refine Stop.mk ?_
            have HS := Lib.hid (lnS_of HA.out HB.out HD.out HE.out f3.out f4.out f5.out f6.out)
            clear f3 f4 f5 f6
            go_wp2_with (refine wpList_farith rfl _ _ _ _ _ rfl rfl _ _ _ rfl rfl ?_; intro r7 j7 g7; have f7 := Lib.hid g7; clear g7; refine Stop.go ?_)
            refine Stop.mk ?_
            go_wp2_with (refine wpList_farith rfl _ _ _ _ _ rfl rfl _ _ _ rfl rfl ?_; intro r8 j8 g8; have f8 := Lib.hid g8; clear g8; refine Stop.go ?_)
            refine Stop.mk ?_
            go_wp2_with (refine wpList_farith rfl _ _ _ _ _ rfl rfl _ _ _ rfl rfl ?_; intro r9 j9 g9; have f9 := Lib.hid g9; clear g9; refine Stop.go ?_)
            refine Stop.mk ?_
            have HT := Lib.hid (lnT_of HA.out HB.out HS.out f7.out f8.out f9.out)
            clear f7 f8 f9
            go_wp2_with fail
            refine (implFinite_any r6 _).mono ?_
            rw [(fin_of HS.out).trans H1.out]
            rintro e w' ⟨rfl, m0, rfl⟩
            go_wp2_with fail
            refine (implFinite_any r9 _).mono ?_
            rw [(fin_of HT.out).trans H2.out]
            rintro e w' ⟨rfl, m1, rfl⟩
            go_wp2
            go_ret3
            exact E.out r6 r9 _ HS.out HT.out (by repeat (first | (with_reducible exact Bw.out) | (with_reducible exact Bp.out) | (with_reducible refine below_drewN ?_ _) | (with_reducible exact Below.refl _ _)))

end Go.Proofs.Ytdemahghjgghkaa
