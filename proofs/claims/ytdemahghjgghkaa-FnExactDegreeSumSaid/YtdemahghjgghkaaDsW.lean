/- Degrees of hours: both sides, and the law. -/
import Derived.Test.YtdemahghjgghkaaDgU
namespace Go.Proofs.Ytdemahghjgghkaa
open Go.RowKit
set_option linter.unusedVariables false

def span (n : Nat) : Bool := decide (1 ≤ n) && decide (n ≤ 96)
theorem spanF_any (v : Value) (zs : List Nat) (w : World) (h : FRow w v zs) : Calls Try.prog 78 #[v] w (BolB (span zs.length) w) := by
  obtain ⟨a, cap, rfl⟩ := h.shape
  clear h
  unfold span
  generalize zs.length = n at *
  by_cases h1 : 1 ≤ n
  · have f1 : decide ((1 : Int) ≤ n) = true := by simp; omega
    go_enter Try.func78, Try.ntmps78
    go_wp2
    go_ret
    exact ⟨ret_b (by simp [h1]; omega), Below.refl _ _⟩
  · have f1 : decide ((1 : Int) ≤ n) = false := by simp; omega
    go_enter Try.func78, Try.ntmps78
    go_wp2
    go_ret
    exact ⟨ret_b (by simp [h1]), Below.refl _ _⟩
def dsB (zs : List Nat) (y : Nat) : Bool := span zs.length && zs.all (fin .f32) && fin .f32 y

set_option maxHeartbeats 800000 in
theorem specDs_any (v : Value) (zs : List Nat) (y : Nat) (w : World) (h : FRow w v zs) : Calls Try.prog 42 #[v, .float .f32 y] w (GivB (cS (dsB zs y) (dsm zs y zs.length)) (cB (dsB zs y) (dsm zs y zs.length)) w) := by
  have Bw := Lib.hid (Below.refl w.heap.size w)
  have HF := Lib.hid (specFinL_any v zs w h)
  have HC := Lib.hid (fun w1 (hb : Below w.heap.size w w1) (hn : 1 ≤ zs.length) => (h.below hb).cells hn)
  have HL := Lib.hid h.len
  have HU := ()
  have DY := Lib.hid (fun k r a b h1 h2 h3 h4 => @dsm_yes zs y k r a b h1 h2 h3 h4)
  have DN := Lib.hid (fun k r h1 h2 => @dsm_no zs y k r h1 h2)
  have DZ := Lib.hid (dsm_zero zs y)
  have DE := Lib.hid (fun k (e : k = zs.length) r (hr : cn .f32 r = dsm zs y k) => show cn .f32 r = dsm zs y zs.length by rw [← e]; exact hr)
  obtain ⟨a, cap, rfl⟩ := h.shape
  clear h
  generalize hV : dsm zs y zs.length = V at *
  clear hV
  cases B0 : decide (1 ≤ zs.length)
  · skip
    have E := Lib.hid (show dsB zs y = false by unfold dsB span; simp [B0])
    have o0_0 : decide ((zs.length : Int) < 1) = true := by have hq := of_decide_eq_false B0; simp; omega
    have H0 := Lib.hid B0
    clear B0
    go_enter Try.func42, Try.ntmps42
    go_wp2
    go_ret2
    exact cGiv_no E.out (by repeat (first | (with_reducible exact Bw.out) | (with_reducible refine below_drewN ?_ _) | (with_reducible exact Below.refl _ _)))
  · skip
    cases B1 : decide (zs.length ≤ 96)
    · skip
      have E := Lib.hid (show dsB zs y = false by unfold dsB span; simp [B0, B1])
      have o0_0 : decide ((zs.length : Int) < 1) = false := by have hq := of_decide_eq_true B0; simp; omega
      have H0 := Lib.hid B0
      have o1_0 : decide ((96 : Int) < (zs.length : Int)) = true := by have hq := of_decide_eq_false B1; simp; omega
      have H1 := Lib.hid B1
      clear B0 B1
      go_enter Try.func42, Try.ntmps42
      go_wp2
      go_ret2
      exact cGiv_no E.out (by repeat (first | (with_reducible exact Bw.out) | (with_reducible refine below_drewN ?_ _) | (with_reducible exact Below.refl _ _)))
    · skip
      cases B2 : zs.all (fin .f32)
      · skip
        have E := Lib.hid (show dsB zs y = false by unfold dsB span; simp [B0, B1, B2])
        have o0_0 : decide ((zs.length : Int) < 1) = false := by have hq := of_decide_eq_true B0; simp; omega
        have H0 := Lib.hid B0
        have o1_0 : decide ((96 : Int) < (zs.length : Int)) = false := by have hq := of_decide_eq_true B1; simp; omega
        have H1 := Lib.hid B1
        have H2 := Lib.hid B2
        clear B0 B1 B2
        go_enter Try.func42, Try.ntmps42
        go_wp2_with fail
        refine (HF.out).mono ?_
        rw [H2.out]
        rintro e w' ⟨rfl, q, rfl⟩
        have Bw := Lib.hid (below_drewN Bw.out q)
        go_wp2
        go_ret2
        exact cGiv_no E.out (by repeat (first | (with_reducible exact Bw.out) | (with_reducible refine below_drewN ?_ _) | (with_reducible exact Below.refl _ _)))
      · skip
        cases B3 : fin .f32 y
        · skip
          have E := Lib.hid (show dsB zs y = false by unfold dsB span; simp [B0, B1, B2, B3])
          have o0_0 : decide ((zs.length : Int) < 1) = false := by have hq := of_decide_eq_true B0; simp; omega
          have H0 := Lib.hid B0
          have o1_0 : decide ((96 : Int) < (zs.length : Int)) = false := by have hq := of_decide_eq_true B1; simp; omega
          have H1 := Lib.hid B1
          have H2 := Lib.hid B2
          have H3 := Lib.hid B3
          clear B0 B1 B2 B3
          go_enter Try.func42, Try.ntmps42
          go_wp2_with fail
          refine (HF.out).mono ?_
          rw [H2.out]
          rintro e w' ⟨rfl, q, rfl⟩
          have Bw := Lib.hid (below_drewN Bw.out q)
          go_wp2_with fail
          refine (specFinite_any y _).mono ?_
          rw [H3.out]
          rintro e w' ⟨rfl, n, rfl⟩
          have Bw := Lib.hid (below_drewN Bw.out n)
          go_wp2
          go_ret2
          exact cGiv_no E.out (by repeat (first | (with_reducible exact Bw.out) | (with_reducible refine below_drewN ?_ _) | (with_reducible exact Below.refl _ _)))
        · skip
          have E := Lib.hid (show dsB zs y = true by unfold dsB span; simp [B0, B1, B2, B3])
          have o0_0 : decide ((zs.length : Int) < 1) = false := by have hq := of_decide_eq_true B0; simp; omega
          have H0 := Lib.hid B0
          have o1_0 : decide ((96 : Int) < (zs.length : Int)) = false := by have hq := of_decide_eq_true B1; simp; omega
          have H1 := Lib.hid B1
          have H2 := Lib.hid B2
          have H3 := Lib.hid B3
          clear B0 B1 B2 B3
          go_enter Try.func42, Try.ntmps42
          go_wp2_with fail
          refine (HF.out).mono ?_
          rw [H2.out]
          rintro e w' ⟨rfl, q, rfl⟩
          have Bw := Lib.hid (below_drewN Bw.out q)
          go_wp2_with fail
          refine (specFinite_any y _).mono ?_
          rw [H3.out]
          rintro e w' ⟨rfl, n, rfl⟩
          have Bw := Lib.hid (below_drewN Bw.out n)
          have FY := Lib.hid (fun x w1 (hx : cn .f32 x = V) (hb : Below w.heap.size w w1) => cGiv_yes E.out hx hb)
          generalize hS : cS (dsB zs y) V = S at *
          generalize hB : cB (dsB zs y) V = B at *
          clear hS hB E H0 H1 H2 H3
          generalize zs.length = n at *
          go_wp2
          go_loopw [6, 7] (fun s i wr => ∃ k r : Nat, k ≤ n ∧ i = .int .i64 k ∧ s = .float .f32 r ∧ Hid (cn .f32 r = dsm zs y k) ∧ Hid (Below w.heap.size w wr)) (fun _ i _ => n - (intOf i).toNat)
          case atStart => exact ⟨0, 0, Nat.zero_le _, rfl, rfl, DZ, by first | exact Bw | exact Lib.hid (by repeat (first | (with_reducible exact Bw.out) | (with_reducible refine below_drewN ?_ _) | (with_reducible exact Below.refl _ _)))⟩
          case round =>
            obtain ⟨k, r, hk, rfl, rfl, hr, Bw⟩ := hrel
            have gL := HL.out
            by_cases hlt : k < n
            · obtain ⟨b0, o0, c0, e, hc⟩ := HC.out wr Bw.out (by omega)
              have ea : a = some ⟨b0, o0, none⟩ := by cases e; rfl
              have z0 := hc k hlt
              have DYk := Lib.hid (DY.out k)
              have DNk := Lib.hid (DN.out k)
              clear e hc
              subst ea
              have hi : (0 : Int) ≤ (k : Int) := by omega
              have hi' : (k : Int) < (n : Int) := by omega
              generalize hz : zs.getD k 0 = z at *
              clear hz
              cases C : ltD z y
              · have oc : (FloatKind.f32.format.order z y == some .lt) = false := C
                have V := Lib.hid (DNk.out r C hr.out)
                clear C
                go_wp2
                go_roundw
                case rel => exact ⟨k + 1, r, by omega, by go_num, rfl, V, Bw⟩
                case measure => simp [intOf]; omega
              · have oc : (FloatKind.f32.format.order z y == some .lt) = true := C
                have V := Lib.hid (fun a b => DYk.out r a b C hr.out)
                clear C
                go_wp2_with (refine wpList_farith rfl _ _ _ _ _ rfl rfl _ _ _ rfl rfl ?_; intro r0 j0 g0; have f0 := Lib.hid g0; clear g0; refine Stop.go ?_)
                refine Stop.mk ?_
                go_wp2_with (refine wpList_farith rfl _ _ _ _ _ rfl rfl _ _ _ rfl rfl ?_; intro r1 j1 g1; have f1 := Lib.hid g1; clear g1; refine Stop.go ?_)
                refine Stop.mk ?_
                go_wp2
                go_roundw
                case rel => exact ⟨k + 1, r1, by omega, by go_num, rfl, Lib.hid (V.out _ _ f0.out f1.out), Lib.hid (by repeat (first | (with_reducible exact Bw.out) | (with_reducible refine below_drewN ?_ _) | (with_reducible exact Below.refl _ _)))⟩
                case measure => simp [intOf]; omega
            · have e := Lib.hid (show k = n by omega)
              have R := Lib.hid (DE.out k e.out r hr.out)
              go_wp2_with fail
              (first | refine (specNum_any _ _).mono ?_ | (go_at_call 53; refine (specNum_any _ _).mono ?_))
              rintro e w' ⟨rfl, n9, rfl⟩
              go_wp2
              go_ret2
              exact FY.out _ _ R.out (by repeat (first | (with_reducible exact Bw.out) | (with_reducible refine below_drewN ?_ _) | (with_reducible exact Below.refl _ _)))

set_option maxHeartbeats 800000 in
theorem implDs_any (v : Value) (zs : List Nat) (y : Nat) (w : World) (h : FRow w v zs) : Calls Try.prog 43 #[v, .float .f32 y] w (GivB (cS (dsB zs y) (dsm zs y zs.length)) (cB (dsB zs y) (dsm zs y zs.length)) w) := by
  have Bw := Lib.hid (Below.refl w.heap.size w)
  have HS := Lib.hid (spanF_any v zs w h)
  have HF := Lib.hid (fun w1 (hb : Below w.heap.size w w1) => allFin_any v zs w1 (h.below hb))
  have HC := Lib.hid (fun w1 (hb : Below w.heap.size w w1) (hn : 1 ≤ zs.length) => (h.below hb).cells hn)
  have HL := Lib.hid h.len
  have HU := Lib.hid (fun w1 (hb : Below w.heap.size w w1) => under_any v zs y w1 (h.below hb))
  have DY := Lib.hid (fun k r a b h1 h2 h3 h4 => @dsm_yes zs y k r a b h1 h2 h3 h4)
  have DN := Lib.hid (fun k r h1 h2 => @dsm_no zs y k r h1 h2)
  have DZ := Lib.hid (dsm_zero zs y)
  have DE := Lib.hid (fun k (e : k = zs.length) r (hr : cn .f32 r = dsm zs y k) => show cn .f32 r = dsm zs y zs.length by rw [← e]; exact hr)
  obtain ⟨a, cap, rfl⟩ := h.shape
  clear h
  generalize hV : dsm zs y zs.length = V at *
  clear hV
  cases B0 : span zs.length
  · skip
    have E := Lib.hid (show dsB zs y = false by unfold dsB; simp [B0])
    have H0 := Lib.hid B0
    clear B0
    go_enter Try.func43, Try.ntmps43
    go_wp2_with fail
    refine (HS.out).mono ?_
    rw [H0.out]
    rintro e wg0 ⟨rfl, hb⟩
    have Bw := Lib.hid (below_step Bw.out (by first | exact hb | exact below_undrew hb))
    clear hb
    go_wp2
    go_ret2
    exact cGiv_no E.out (by repeat (first | (with_reducible exact Bw.out) | (with_reducible refine below_drewN ?_ _) | (with_reducible exact Below.refl _ _)))
  · skip
    cases B1 : zs.all (fin .f32)
    · skip
      have E := Lib.hid (show dsB zs y = false by unfold dsB; simp [B0, B1])
      have H0 := Lib.hid B0
      have H1 := Lib.hid B1
      clear B0 B1
      go_enter Try.func43, Try.ntmps43
      go_wp2_with fail
      refine (HS.out).mono ?_
      rw [H0.out]
      rintro e wg0 ⟨rfl, hb⟩
      have Bw := Lib.hid (below_step Bw.out (by first | exact hb | exact below_undrew hb))
      clear hb
      go_wp2_with fail
      refine (HF.out _ Bw.out).mono ?_
      rw [H1.out]
      rintro e wg1 ⟨rfl, hb⟩
      have Bw := Lib.hid (below_step Bw.out (by first | exact hb | exact below_undrew hb))
      clear hb
      go_wp2
      go_ret2
      exact cGiv_no E.out (by repeat (first | (with_reducible exact Bw.out) | (with_reducible refine below_drewN ?_ _) | (with_reducible exact Below.refl _ _)))
    · skip
      cases B2 : fin .f32 y
      · skip
        have E := Lib.hid (show dsB zs y = false by unfold dsB; simp [B0, B1, B2])
        have H0 := Lib.hid B0
        have H1 := Lib.hid B1
        have H2 := Lib.hid B2
        clear B0 B1 B2
        go_enter Try.func43, Try.ntmps43
        go_wp2_with fail
        refine (HS.out).mono ?_
        rw [H0.out]
        rintro e wg0 ⟨rfl, hb⟩
        have Bw := Lib.hid (below_step Bw.out (by first | exact hb | exact below_undrew hb))
        clear hb
        go_wp2_with fail
        refine (HF.out _ Bw.out).mono ?_
        rw [H1.out]
        rintro e wg1 ⟨rfl, hb⟩
        have Bw := Lib.hid (below_step Bw.out (by first | exact hb | exact below_undrew hb))
        clear hb
        go_wp2_with fail
        refine (implFinite_any y _).mono ?_
        rw [H2.out]
        rintro e w' ⟨rfl, n, rfl⟩
        have Bw := Lib.hid (below_drewN Bw.out n)
        go_wp2
        go_ret2
        exact cGiv_no E.out (by repeat (first | (with_reducible exact Bw.out) | (with_reducible refine below_drewN ?_ _) | (with_reducible exact Below.refl _ _)))
      · skip
        have E := Lib.hid (show dsB zs y = true by unfold dsB; simp [B0, B1, B2])
        have H0 := Lib.hid B0
        have H1 := Lib.hid B1
        have H2 := Lib.hid B2
        clear B0 B1 B2
        go_enter Try.func43, Try.ntmps43
        go_wp2_with fail
        refine (HS.out).mono ?_
        rw [H0.out]
        rintro e wg0 ⟨rfl, hb⟩
        have Bw := Lib.hid (below_step Bw.out (by first | exact hb | exact below_undrew hb))
        clear hb
        go_wp2_with fail
        refine (HF.out _ Bw.out).mono ?_
        rw [H1.out]
        rintro e wg1 ⟨rfl, hb⟩
        have Bw := Lib.hid (below_step Bw.out (by first | exact hb | exact below_undrew hb))
        clear hb
        go_wp2_with fail
        refine (implFinite_any y _).mono ?_
        rw [H2.out]
        rintro e w' ⟨rfl, n, rfl⟩
        have Bw := Lib.hid (below_drewN Bw.out n)
        go_wp2_with fail
        refine (HU.out _ Bw.out).mono ?_
        rintro e wu ⟨u, hu, rfl, hb⟩
        have U := Lib.hid hu
        have Bw := Lib.hid (below_step Bw.out hb)
        clear hb hu
        go_wp2_with fail
        (first | refine (implNum_any _ _).mono ?_ | (go_at_call 50; refine (implNum_any _ _).mono ?_))
        rintro e w' ⟨rfl, n9, rfl⟩
        go_wp2
        go_ret2
        exact cGiv_yes E.out U.out (by repeat (first | (with_reducible exact Bw.out) | (with_reducible refine below_drewN ?_ _) | (with_reducible exact Below.refl _ _)))
set_option maxRecDepth 20000 in
set_option maxHeartbeats 1600000 in
theorem fnExactDegreeSum_walk (v0 : Value) (zs : List Nat) (y : Nat) (w : World) (h0 : FRow w v0 zs) (wf1 : (Lit.float .f32 y).wf = true) : Calls Try.prog 14 #[v0, .float .f32 y] w (Tru w) := by
  clear wf1
  by_cases hl0 : zs.length ≤ 1048576
  rotate_left
  · skip
    have g0 := h0.len
    obtain ⟨a0, c0, rfl⟩ := h0.shape
    clear h0
    go_enter Try.func14, Try.ntmps14
    go_wp2
    go_ret
    exact Tru.same
  have HL0 := Lib.hid hl0
  have A0 := Lib.hid h0
  have Bw := Lib.hid (Below.refl w.heap.size w)
  obtain ⟨a0, c0, rfl⟩ := h0.shape
  clear h0
  go_enter Try.func14, Try.ntmps14
  go_wp2_with fail
  refine (toF_any _ zs _ (by first | exact A0.out | exact A0.out.drewN) HL0.out).mono ?_
  rintro _ w1 ⟨x1, rfl, hx, hb⟩
  have A0 := Lib.hid (A0.out.below (by first | exact hb | exact below_undrew hb))
  have Bw := Lib.hid (below_step Bw.out (by first | exact hb | exact below_undrew hb))
  clear hb
  have X0 := Lib.hid hx
  clear hx
  go_wp2_with fail
  refine (specDs_any _ zs y _ X0.out).mono ?_
  rintro _ w2 ⟨r1, hr, rfl, hb⟩
  have A0 := Lib.hid (A0.out.below (by first | exact hb | exact below_undrew hb))
  have X0 := Lib.hid (X0.out.below (by first | exact hb | exact below_undrew hb))
  have Bw := Lib.hid (below_step Bw.out (by first | exact hb | exact below_undrew hb))
  clear hb
  have R1 := Lib.hid hr
  clear hr
  clear X0
  go_wp2_with fail
  refine (toF_any _ zs _ (by first | exact A0.out | exact A0.out.drewN) HL0.out).mono ?_
  rintro _ w3 ⟨x3, rfl, hx, hb⟩
  have A0 := Lib.hid (A0.out.below (by first | exact hb | exact below_undrew hb))
  have Bw := Lib.hid (below_step Bw.out (by first | exact hb | exact below_undrew hb))
  clear hb
  have X0 := Lib.hid hx
  clear hx
  go_wp2_with fail
  refine (implDs_any _ zs y _ X0.out).mono ?_
  rintro _ w4 ⟨r2, hr, rfl, hb⟩
  have A0 := Lib.hid (A0.out.below (by first | exact hb | exact below_undrew hb))
  have X0 := Lib.hid (X0.out.below (by first | exact hb | exact below_undrew hb))
  have Bw := Lib.hid (below_step Bw.out (by first | exact hb | exact below_undrew hb))
  clear hb
  have R2 := Lib.hid hr
  clear hr
  go_wp2_with (first | (refine wpList_up rfl Try.underlying25 Try.underlying29 _ rfl _ rfl ?_; intro _ _ _) | (refine upon_up Try.underlying25 Try.underlying29 _ ?_; intro _ _ _; simp only [Result.andThen_ok]) | (go_at_call 21; refine (same_end (a := r2) (b := r1) _ (by assumption) (by assumption) (R2.out.trans R1.out.symm)).mono ?_; rintro e w' ⟨rfl, n, rfl⟩))
  refine (toF_any _ zs _ (by first | exact A0.out | exact A0.out.drewN) HL0.out).mono ?_
  rintro _ w5 ⟨x5, rfl, hx, hb⟩
  have A0 := Lib.hid (A0.out.below (by first | exact hb | exact below_undrew hb))
  have X0 := Lib.hid (X0.out.below (by first | exact hb | exact below_undrew hb))
  have Bw := Lib.hid (below_step Bw.out (by first | exact hb | exact below_undrew hb))
  clear hb
  have Y0 := Lib.hid hx
  clear hx
  go_wp2_with fail
  refine (eqF_any _ _ zs zs _ X0.out Y0.out (SameList.refl zs)).mono ?_
  rintro _ _ ⟨rfl, nq0, rfl⟩
  have Bw := Lib.hid (below_drewN Bw.out nq0)
  have A0 := Lib.hid (A0.out.below (below_drewN (Below.refl _ _) nq0))
  clear X0 Y0
  go_wp2
  go_ret
  exact Tru.below (by repeat (first | (with_reducible exact Bw.out) | (with_reducible refine below_drewN ?_ _) | (with_reducible exact Below.refl _ _)))


end Go.Proofs.Ytdemahghjgghkaa
