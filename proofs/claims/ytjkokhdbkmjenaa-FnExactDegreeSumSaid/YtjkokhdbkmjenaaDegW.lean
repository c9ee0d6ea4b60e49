/- Degrees under a base: both sides, and the law. -/
import Derived.Test.YtjkokhdbkmjenaaPrc
import Derived.Test.YtjkokhdbkmjenaaFinL
import Derived.Test.YtjkokhdbkmjenaaSnA
import Derived.Test.YtjkokhdbkmjenaaSl
import Derived.Test.YtjkokhdbkmjenaaFu
namespace Go.Proofs.Ytjkokhdbkmjenaa
open Go.RowKit
set_option linter.unusedVariables false

def ltD (x y : Nat) : Bool := FloatKind.f32.format.order x y == some .lt
/-- the sum of the first k numbers' degrees -/
def dsm (zs : List Nat) (y : Nat) : Nat → Nat
  | 0 => 0
  | k + 1 => if ltD (zs.getD k 0) y then fop .add .f32 (dsm zs y k) (fop .sub .f32 y (zs.getD k 0)) else dsm zs y k
def dsB (zs : List Nat) (y : Nat) : Bool := span zs.length && zs.all (fin .f32) && fin .f32 y
theorem dsm_yes {zs : List Nat} {y k r a b : Nat} (h : ltD (zs.getD k 0) y = true) (hr : cn .f32 r = dsm zs y k) (f0 : FR .sub .f32 y (zs.getD k 0) a) (f1 : FR .add .f32 r a b) : cn .f32 b = dsm zs y (k + 1) := by
  unfold dsm
  rw [h, if_pos rfl, f1.1, hr, f0.1]
  simp only [fopl', fopr']
theorem dsm_no {zs : List Nat} {y k r : Nat} (h : ltD (zs.getD k 0) y = false) (hr : cn .f32 r = dsm zs y k) : cn .f32 r = dsm zs y (k + 1) := by
  unfold dsm
  rw [h, if_neg (by decide)]; exact hr
theorem dsm_zero (zs : List Nat) (y : Nat) : cn .f32 0 = dsm zs y 0 := by show cn .f32 0 = 0; decide +kernel

theorem spanF_any (v : Value) (zs : List Nat) (w : World) (h : FRow w v zs) : Calls Try.prog 64 #[v] w fun e w' => e = .returned (.bool (span zs.length)) ∧ w = w' := by
  obtain ⟨a, cap, rfl⟩ := h.shape
  clear h
  unfold span
  generalize zs.length = n at *
  by_cases h1 : 1 ≤ n
  · have f1 : decide ((1 : Int) ≤ n) = true := by simp; omega
    go_enter Try.func64, Try.ntmps64
    go_wp2
    go_ret
    exact ⟨ret_b (by simp [h1]; omega), rfl⟩
  · have f1 : decide ((1 : Int) ≤ n) = false := by simp; omega
    go_enter Try.func64, Try.ntmps64
    go_wp2
    go_ret
    exact ⟨ret_b (by simp [h1]), rfl⟩

set_option maxHeartbeats 800000 in
theorem specDeg_any (v : Value) (zs : List Nat) (y : Nat) (w : World) (h : FRow w v zs) : Calls Try.prog 30 #[v, .float .f32 y] w (GivB (cS (dsB zs y) (dsm zs y zs.length)) (cB (dsB zs y) (dsm zs y zs.length)) w) := by
  have FN := Lib.hid (fun (e : dsB zs y = false) (w1 : World) (hb : Below w.heap.size w w1) => cGiv_no (V := dsm zs y zs.length) e hb)
  have FY := Lib.hid (fun (e : dsB zs y = true) (x : Nat) (w1 : World) (hx : cn .f32 x = dsm zs y zs.length) (hb : Below w.heap.size w w1) => cGiv_yes e hx hb)
  have HC := Lib.hid (fun w1 (hb : Below w.heap.size w w1) (hn : 1 ≤ zs.length) => (h.below hb).cells hn)
  have HF := Lib.hid (specFinL_any v zs w h)
  have HL := Lib.hid h.len
  have DY := Lib.hid (fun k r a b h1 h2 h3 h4 => @dsm_yes zs y k r a b h1 h2 h3 h4)
  have DN := Lib.hid (fun k r h1 h2 => @dsm_no zs y k r h1 h2)
  have DZ := Lib.hid (dsm_zero zs y)
  obtain ⟨a, cap, rfl⟩ := h.shape
  clear h
  generalize hS : cS (dsB zs y) (dsm zs y zs.length) = S at *
  generalize hB : cB (dsB zs y) (dsm zs y zs.length) = B at *
  clear hS hB
  by_cases B1 : 1 ≤ zs.length
  rotate_left
  · skip
    have E := Lib.hid (FN.out (by unfold dsB span; simp [B1]))
    have o1 : decide ((zs.length : Int) < 1) = true := by simp; omega
    clear B1
    generalize zs.length = n at *
    go_enter Try.func30, Try.ntmps30

    go_wp2
    go_ret2
    exact E.out _ (by repeat (first | (with_reducible exact Bw.out) | (with_reducible refine below_drewN ?_ _) | (with_reducible exact Below.refl _ _)))
  · skip
    by_cases B2 : zs.length ≤ 96
    rotate_left
    · skip
      have E := Lib.hid (FN.out (by unfold dsB span; simp [B2]))
      have o1 : decide ((zs.length : Int) < 1) = false := by simp; omega
      have o2 : decide ((96 : Int) < (zs.length : Int)) = true := by simp; omega
      have gL := HL.out
      clear B1 B2
      generalize zs.length = n at *
      go_enter Try.func30, Try.ntmps30

      go_wp2
      go_ret2
      exact E.out _ (by repeat (first | (with_reducible exact Bw.out) | (with_reducible refine below_drewN ?_ _) | (with_reducible exact Below.refl _ _)))
    · skip
      cases B3 : zs.all (fin .f32)
      · skip
        have E := Lib.hid (FN.out (by unfold dsB; simp [B3]))
        have HA := Lib.hid B3
        have o1 : decide ((zs.length : Int) < 1) = false := by simp; omega
        have o2 : decide ((96 : Int) < (zs.length : Int)) = false := by simp; omega
        clear B1 B2 B3
        go_enter Try.func30, Try.ntmps30
        go_wp2_with fail
        refine HF.out.mono ?_
        rw [HA.out]
        rintro e w' ⟨rfl, q, rfl⟩
        have Bw := Lib.hid (below_drewN (Below.refl w.heap.size w) q)
        go_wp2
        go_ret2
        exact E.out _ (by repeat (first | (with_reducible exact Bw.out) | (with_reducible refine below_drewN ?_ _) | (with_reducible exact Below.refl _ _)))
      · skip
        cases B4 : fin .f32 y
        · skip
          have E := Lib.hid (FN.out (by unfold dsB; simp [B4]))
          have HA := Lib.hid B3
          have HY := Lib.hid B4
          have o1 : decide ((zs.length : Int) < 1) = false := by simp; omega
          have o2 : decide ((96 : Int) < (zs.length : Int)) = false := by simp; omega
          clear B1 B2 B3 B4
          go_enter Try.func30, Try.ntmps30
          go_wp2_with fail
          refine HF.out.mono ?_
          rw [HA.out]
          rintro e w' ⟨rfl, q, rfl⟩
          have Bw := Lib.hid (below_drewN (Below.refl w.heap.size w) q)
          go_wp2_with fail
          refine (specFinite_any y _).mono ?_
          rw [HY.out]
          rintro e w' ⟨rfl, q2, rfl⟩
          have Bw := Lib.hid (below_drewN Bw.out q2)
          go_wp2
          go_ret2
          exact E.out _ (by repeat (first | (with_reducible exact Bw.out) | (with_reducible refine below_drewN ?_ _) | (with_reducible exact Below.refl _ _)))
        · skip
          have E := Lib.hid (FY.out (by unfold dsB span; simp [B1, B2, B3, B4]))
          have HA := Lib.hid B3
          have HY := Lib.hid B4
          have o1 : decide ((zs.length : Int) < 1) = false := by simp; omega
          have o2 : decide ((96 : Int) < (zs.length : Int)) = false := by simp; omega
          have n96 := B2
          clear B1 B2 B3 B4
          go_enter Try.func30, Try.ntmps30
          go_wp2_with fail
          refine HF.out.mono ?_
          rw [HA.out]
          rintro e w' ⟨rfl, q, rfl⟩
          have Bw := Lib.hid (below_drewN (Below.refl w.heap.size w) q)
          go_wp2_with fail
          refine (specFinite_any y _).mono ?_
          rw [HY.out]
          rintro e w' ⟨rfl, q2, rfl⟩
          have Bw := Lib.hid (below_drewN Bw.out q2)
          have HC := Lib.hid (HC.out _ Bw.out)
          clear HF HA HY
          generalize zs.length = n at *
          go_wp2
          go_loopw [6, 7] (fun s i wr => ∃ k r m : Nat, k ≤ n ∧ i = .int .i64 k ∧ s = .float .f32 r ∧ Hid (cn .f32 r = dsm zs y k) ∧ Hid (Below w.heap.size w wr) ∧ Hid (∀ (hn : 1 ≤ n), ∃ b off cap', Value.slice a n cap = .slice (some ⟨b, off, none⟩) n cap' ∧ ∀ i, i < n → wr.cell? ⟨b, off + i, none⟩ = some (.float .f32 (zs.getD i 0)))) (fun _ i _ => n - (intOf i).toNat)
          case atStart => exact ⟨0, 0, 0, Nat.zero_le _, rfl, rfl, DZ, by first | exact Bw | exact Lib.hid (by repeat (first | (with_reducible exact Bw.out) | (with_reducible refine below_drewN ?_ _) | (with_reducible exact Below.refl _ _))), HC⟩
          case round =>
            obtain ⟨k, r, m, hk, rfl, rfl, hr, Bw, HC⟩ := hrel
            have gL := HL.out
            by_cases hlt : k < n
            · obtain ⟨b0, o0, cap', e, hc⟩ := HC.out (by omega)
              have ea : a = some ⟨b0, o0, none⟩ := by cases e; rfl
              have z0 := hc k hlt
              have DYk := Lib.hid (DY.out k)
              have DNk := Lib.hid (DN.out k)
              clear e hc
              subst ea
              have hi : (0 : Int) ≤ (k : Int) := by omega
              have hi' : (k : Int) < (n : Int) := by omega
              generalize hz : zs.getD k 0 = z at *
              clear hz
              cases C : ltD z y
              · have oc : (FloatKind.f32.format.order z y == some .lt) = false := C
                have V := Lib.hid (DNk.out r C hr.out)
                clear C
                go_wp2
                go_roundw
                case rel => exact ⟨k + 1, r, 0, by omega, by go_num, rfl, V, Bw, HC⟩
                case measure => simp [intOf]; omega
              · have oc : (FloatKind.f32.format.order z y == some .lt) = true := C
                have V := Lib.hid (fun a b => DYk.out r a b C hr.out)
                clear C
                go_wp2_with (refine wpList_farith rfl _ _ _ _ _ rfl rfl _ _ _ rfl rfl ?_; intro r0 j0 g0; have f0 := Lib.hid g0; clear g0; refine Stop.go ?_)
                refine Stop.mk ?_
                go_wp2_with (refine wpList_farith rfl _ _ _ _ _ rfl rfl _ _ _ rfl rfl ?_; intro r1 j1 g1; have f1 := Lib.hid g1; clear g1; refine Stop.go ?_)
                refine Stop.mk ?_
                go_wp2
                go_roundw
                case rel => exact ⟨k + 1, r1, 0, by omega, by go_num, rfl, Lib.hid (V.out _ _ f0.out f1.out), Lib.hid (by repeat (first | (with_reducible exact Bw.out) | (with_reducible refine below_drewN ?_ _) | (with_reducible exact Below.refl _ _))), Lib.hid (fun hn => HC.out hn)⟩
                case measure => simp [intOf]; omega
            · have e := Lib.hid (show k = n by omega)
              clear HC
              go_wp2_with fail
              (first | refine (specNum_any _ _).mono ?_ | (go_at_call 63; refine (specNum_any _ _).mono ?_))
              rintro e w' ⟨rfl, n9, rfl⟩
              go_wp2
              go_ret2
              have := e.out
              subst this
              exact E.out _ _ hr.out (by repeat (first | (with_reducible exact Bw.out) | (with_reducible refine below_drewN ?_ _) | (with_reducible exact Below.refl _ _)))
          

set_option maxHeartbeats 800000 in
theorem implDeg_any (v : Value) (zs : List Nat) (y : Nat) (w : World) (h : FRow w v zs) : Calls Try.prog 32 #[v, .float .f32 y] w (GivB (cS (dsB zs y) (dsm zs y zs.length)) (cB (dsB zs y) (dsm zs y zs.length)) w) := by
  have FN := Lib.hid (fun (e : dsB zs y = false) (w1 : World) (hb : Below w.heap.size w w1) => cGiv_no (V := dsm zs y zs.length) e hb)
  have FY := Lib.hid (fun (e : dsB zs y = true) (x : Nat) (w1 : World) (hx : cn .f32 x = dsm zs y zs.length) (hb : Below w.heap.size w w1) => cGiv_yes e hx hb)
  have HC := Lib.hid (fun w1 (hb : Below w.heap.size w w1) (hn : 1 ≤ zs.length) => (h.below hb).cells hn)
  have HS := Lib.hid (spanF_any v zs w h)
  have HF := Lib.hid (allFin_any v zs w h)
  have HL := Lib.hid h.len
  have DY := Lib.hid (fun k r a b h1 h2 h3 h4 => @dsm_yes zs y k r a b h1 h2 h3 h4)
  have DN := Lib.hid (fun k r h1 h2 => @dsm_no zs y k r h1 h2)
  have DZ := Lib.hid (dsm_zero zs y)
  obtain ⟨a, cap, rfl⟩ := h.shape
  clear h
  generalize hS : cS (dsB zs y) (dsm zs y zs.length) = S at *
  generalize hB : cB (dsB zs y) (dsm zs y zs.length) = B at *
  clear hS hB
  cases B1 : span zs.length
  · skip
    have E := Lib.hid (FN.out (by unfold dsB; simp [B1]))
    have HP := Lib.hid B1
    clear B1
    go_enter Try.func32, Try.ntmps32
    go_wp2_with fail
    refine HS.out.mono ?_
    rw [HP.out]
    rintro e w' ⟨rfl, rfl⟩
    go_wp2
    go_ret2
    exact E.out _ (by repeat (first | (with_reducible exact Bw.out) | (with_reducible refine below_drewN ?_ _) | (with_reducible exact Below.refl _ _)))
  · skip
    cases B3 : zs.all (fin .f32)
    · skip
      have E := Lib.hid (FN.out (by unfold dsB; simp [B3]))
      have HA := Lib.hid B3
      have HP := Lib.hid B1
      clear B1 B3
      go_enter Try.func32, Try.ntmps32
      go_wp2_with fail
      refine HS.out.mono ?_
      rw [HP.out]
      rintro e w' ⟨rfl, rfl⟩
      go_wp2_with fail
      refine HF.out.mono ?_
      rw [HA.out]
      rintro e w1 ⟨rfl, hb⟩
      have Bw := Lib.hid hb
      clear hb
      go_wp2
      go_ret2
      exact E.out _ (by repeat (first | (with_reducible exact Bw.out) | (with_reducible refine below_drewN ?_ _) | (with_reducible exact Below.refl _ _)))
    · skip
      cases B4 : fin .f32 y
      · skip
        have E := Lib.hid (FN.out (by unfold dsB; simp [B4]))
        have HA := Lib.hid B3
        have HY := Lib.hid B4
        have HP := Lib.hid B1
        clear B1 B3 B4
        go_enter Try.func32, Try.ntmps32
        go_wp2_with fail
        refine HS.out.mono ?_
        rw [HP.out]
        rintro e w' ⟨rfl, rfl⟩
        go_wp2_with fail
        refine HF.out.mono ?_
        rw [HA.out]
        rintro e w1 ⟨rfl, hb⟩
        have Bw := Lib.hid hb
        clear hb
        go_wp2_with fail
        refine (implFinite_any y _).mono ?_
        rw [HY.out]
        rintro e w' ⟨rfl, q2, rfl⟩
        have Bw := Lib.hid (below_drewN Bw.out q2)
        go_wp2
        go_ret2
        exact E.out _ (by repeat (first | (with_reducible exact Bw.out) | (with_reducible refine below_drewN ?_ _) | (with_reducible exact Below.refl _ _)))
      · skip
        have E := Lib.hid (FY.out (by unfold dsB; simp [B1, B3, B4]))
        have HA := Lib.hid B3
        have HY := Lib.hid B4
        have HP := Lib.hid B1
        have n96 : zs.length ≤ 96 := by unfold span at B1; simp only [Bool.and_eq_true, decide_eq_true_eq] at B1; exact B1.2
        clear B1 B3 B4
        go_enter Try.func32, Try.ntmps32
        go_wp2_with fail
        refine HS.out.mono ?_
        rw [HP.out]
        rintro e w' ⟨rfl, rfl⟩
        go_wp2_with fail
        refine HF.out.mono ?_
        rw [HA.out]
        rintro e w1 ⟨rfl, hb⟩
        have Bw := Lib.hid hb
        clear hb
        go_wp2_with fail
        refine (implFinite_any y _).mono ?_
        rw [HY.out]
        rintro e w' ⟨rfl, q2, rfl⟩
        have Bw := Lib.hid (below_drewN Bw.out q2)
        have HC := Lib.hid (HC.out _ Bw.out)
        clear HF HS HA HY HP
        generalize zs.length = n at *
        generalize w1.drewN q2 = wb at *
        go_wp2
        go_loopw [6, 8, 24] (fun s _ i wr => ∃ k r m : Nat, k ≤ n ∧ i = .int .i64 k ∧ s = .float .f32 r ∧ Hid (cn .f32 r = dsm zs y k) ∧ Hid (Below w.heap.size w wr) ∧ Hid (∀ (hn : 1 ≤ n), ∃ b off cap', Value.slice a n cap = .slice (some ⟨b, off, none⟩) n cap' ∧ ∀ i, i < n → wr.cell? ⟨b, off + i, none⟩ = some (.float .f32 (zs.getD i 0)))) (fun _ _ i _ => n - (intOf i).toNat)
        case atStart => exact ⟨0, 0, 0, Nat.zero_le _, rfl, rfl, DZ, by first | exact Bw | exact Lib.hid (by repeat (first | (with_reducible exact Bw.out) | (with_reducible refine below_drewN ?_ _) | (with_reducible exact Below.refl _ _))), HC⟩
        case round =>
          obtain ⟨k, r, m, hk, rfl, rfl, hr, Bw, HC⟩ := hrel
          have gL := HL.out
          by_cases hlt : k < n
          · obtain ⟨b0, o0, cap', e, hc⟩ := HC.out (by omega)
            have ea : a = some ⟨b0, o0, none⟩ := by cases e; rfl
            have z0 := hc k hlt
            have DYk := Lib.hid (DY.out k)
            have DNk := Lib.hid (DN.out k)
            clear e hc
            subst ea
            have hi : (0 : Int) ≤ (k : Int) := by omega
            have hi' : (k : Int) < (n : Int) := by omega
            generalize hz : zs.getD k 0 = z at *
            clear hz
            cases C : ltD z y
            · have oc : (FloatKind.f32.format.order z y == some .lt) = false := C
              have V := Lib.hid (DNk.out r C hr.out)
              clear C
              go_wp2
              go_roundw
              case rel => exact ⟨k + 1, r, 0, by omega, by go_num, rfl, V, Bw, HC⟩
              case measure => simp [intOf]; omega
            · have oc : (FloatKind.f32.format.order z y == some .lt) = true := C
              have V := Lib.hid (fun a b => DYk.out r a b C hr.out)
              clear C
              go_wp2_with (refine wpList_farith rfl _ _ _ _ _ rfl rfl _ _ _ rfl rfl ?_; intro r0 j0 g0; have f0 := Lib.hid g0; clear g0; refine Stop.go ?_)
              refine Stop.mk ?_
              go_wp2_with (refine wpList_farith rfl _ _ _ _ _ rfl rfl _ _ _ rfl rfl ?_; intro r1 j1 g1; have f1 := Lib.hid g1; clear g1; refine Stop.go ?_)
              refine Stop.mk ?_
              go_wp2
              go_roundw
              case rel => exact ⟨k + 1, r1, 0, by omega, by go_num, rfl, Lib.hid (V.out _ _ f0.out f1.out), Lib.hid (by repeat (first | (with_reducible exact Bw.out) | (with_reducible refine below_drewN ?_ _) | (with_reducible exact Below.refl _ _))), Lib.hid (fun hn => HC.out hn)⟩
              case measure => simp [intOf]; omega
          · have e := Lib.hid (show k = n by omega)
            clear HC
            go_wp2_with fail
            (first | refine (implNum_any _ _).mono ?_ | (go_at_call 56; refine (implNum_any _ _).mono ?_))
            rintro e w' ⟨rfl, n9, rfl⟩
            go_wp2
            go_ret2
            have := e.out
            subst this
            exact E.out _ _ hr.out (by repeat (first | (with_reducible exact Bw.out) | (with_reducible refine below_drewN ?_ _) | (with_reducible exact Below.refl _ _)))
        

set_option maxRecDepth 20000 in
theorem fnExactDegreeSum_walk (v : Value) (zs : List Nat) (y : Nat) (w : World) (h : FRow w v zs) (wy : (Lit.float .f32 y).wf = true) :
    Calls Try.prog 8 #[v, .float .f32 y] w (Tru w) := by
  by_cases hl : zs.length ≤ 1048576
  · obtain ⟨a, cap, hv⟩ := h.shape
    have HF := Lib.hid h
    have HL := Lib.hid hl
    subst hv
    clear h
    go_enter Try.func8, Try.ntmps8
    go_wp2_with fail
    refine (toF_any _ zs _ HF.out HL.out).mono ?_
    rintro _ w1 ⟨x1, rfl, hx1, hb1⟩
    have A1 := Lib.hid (HF.out.below hb1)
    have X1 := Lib.hid hx1
    have B1 := Lib.hid hb1
    clear hx1 hb1
    go_wp2_with fail
    refine (specDeg_any _ zs y _ X1.out).mono ?_
    rintro _ w2 ⟨r1, hr1, rfl, hb⟩
    have R1 := Lib.hid hr1
    have A1 := Lib.hid (A1.out.below hb)
    have B1 := Lib.hid (below_step B1.out hb)
    clear hr1 hb
    go_wp2_with fail
    refine (toF_any _ zs _ A1.out HL.out).mono ?_
    rintro _ w3 ⟨x2, rfl, hx2, hb2⟩
    have A2 := Lib.hid (A1.out.below hb2)
    have X2 := Lib.hid hx2
    have B2 := Lib.hid (below_step B1.out hb2)
    clear hx2 hb2
    go_wp2_with fail
    refine (implDeg_any _ zs y _ X2.out).mono ?_
    rintro _ w4 ⟨r2, hr2, rfl, hb⟩
    have R2 := Lib.hid hr2
    have A2 := Lib.hid (A2.out.below hb)
    have X2 := Lib.hid (X2.out.below hb)
    have B2 := Lib.hid (below_step B2.out hb)
    clear hr2 hb
    go_wp2_with (first | (refine wpList_up rfl Try.underlying22 Try.underlying33 _ rfl _ rfl ?_; intro _ _ _) | (go_at_call 21; refine (same_end (a := r2) (b := r1) _ (by assumption) (by assumption) (R2.out.trans R1.out.symm)).mono ?_; rintro e w' ⟨rfl, n, rfl⟩))
    refine (toF_any _ zs _ A2.out.drewN HL.out).mono ?_
    rintro _ w5 ⟨x3, rfl, hx3, hb3⟩
    have X3 := Lib.hid hx3
    have Y3 := Lib.hid (X2.out.below (below_undrew hb3))
    have B3 := Lib.hid (below_step B2.out (below_undrew hb3))
    clear hx3 hb3
    go_wp2_with fail
    refine (eqF_any _ _ zs zs _ Y3.out X3.out (SameList.refl zs)).mono ?_
    rintro _ _ ⟨rfl, n3, rfl⟩
    go_wp2
    go_ret
    exact Tru.below (below_drewN B3.out _)
  · have HL := Lib.hid h.len
    obtain ⟨a, cap, rfl⟩ := h.shape
    clear h
    have gL := HL.out
    go_enter Try.func8, Try.ntmps8
    go_wp2
    go_ret
    exact Tru.same
end Go.Proofs.Ytjkokhdbkmjenaa
