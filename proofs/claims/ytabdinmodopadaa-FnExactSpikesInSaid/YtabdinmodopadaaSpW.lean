/- Spikes in reads: both sides, and the law. -/
import Derived.Test.YtabdinmodopadaaSpk
import Derived.Test.YtabdinmodopadaaMdW
namespace Go.Proofs.Ytabdinmodopadaa
open Go.RowKit
set_option linter.unusedVariables false

theorem OwnJ.lower {w : World} {base b : Nat} {v : Value} {zs : List Int} (h : OwnJ w base v zs) (hb : b ≤ base) : OwnJ w b v zs := by
  obtain ⟨h1, h2⟩ := h
  refine ⟨h1, ?_⟩
  rcases h2 with h2 | ⟨g, cap, cur, e, hg, h3⟩
  · exact .inl h2
  · exact .inr ⟨g, cap, cur, e, Nat.le_trans hb hg, h3⟩
theorem rowf_cell {w w2 : World} {g : Nat} {R : List Nat} (h : RowF w g 0 R) (hb : Below w.heap.size w w2) (i : Nat) (hi : i < R.length) : w2.cell? ⟨g, i, none⟩ = some (.float .f32 (R.getD i 0)) := by
  have := (h.of_block (hb.block g h.lt)).cell hi
  rwa [Nat.zero_add] at this

set_option maxRecDepth 20000 in
set_option maxHeartbeats 3200000 in
theorem specSpk_any (l : Nat) (v : Value) (zs : List Nat) (w : World) (h : FRow w v zs) : Calls Try.prog 18 #[v, .float .f32 l] w (LstJO (spR zs l) (spB zs l) w) := by
  have Bw := Lib.hid (Below.refl w.heap.size w)
  have Bp := Lib.hid Bw.out
  have HG := Lib.hid (fun w1 (hb : Below w.heap.size w w1) => specRds_any v zs w1 (h.below hb))
  have HM := Lib.hid (fun (e : rds zs = true) w1 (hb : Below w.heap.size w w1) => specMl_any v zs w1 (h.below hb) (rds_len e).1 (rds_len e).2)
  have FN := Lib.hid (fun (e : spB zs l = false) w1 (hb : Below w.heap.size w w1) => sp_no e hb)
  have FY := Lib.hid (fun (e : spB zs l = true) v w1 ho (hb : Below w.heap.size w w1) => sp_yes (v := v) e ho hb)
  have PE := Lib.hid (show spB zs l = (rds zs && lst l) from rfl)
  cases B0 : rds zs
  · skip
    have HR := Lib.hid B0
    have E := Lib.hid (FN.out (PE.out.trans (by rw [B0]; rfl)))
    clear B0 FN FY HM
    obtain ⟨a, cap, rfl⟩ := h.shape
    clear h
    generalize spR zs l = S at *
    generalize spB zs l = BS at *
    go_enter Try.func18, Try.ntmps18
    go_wp2_with fail
    refine (HG.out _ (by repeat (first | (with_reducible exact Bw.out) | (with_reducible exact Bp.out) | (with_reducible refine below_drewN ?_ _) | (with_reducible exact Below.refl _ _)))).mono ?_
    rw [HR.out]
    rintro e wg ⟨rfl, hb⟩
    have Bw := Lib.hid (below_step Bw.out (by first | exact hb | exact below_undrew hb))
    have Bp := Lib.hid Bw.out
    clear hb
    go_wp2
    go_ret2
    exact E.out _ (by repeat (first | (with_reducible exact Bw.out) | (with_reducible exact Bp.out) | (with_reducible refine below_drewN ?_ _) | (with_reducible exact Below.refl _ _)))
  · cases B1 : lst l
    · skip
      have HR := Lib.hid B0
      have HT := Lib.hid B1
      have E := Lib.hid (FN.out (PE.out.trans (by rw [B0, B1]; rfl)))
      have HM := Lib.hid (HM.out B0)
      clear B0 B1 FN FY
      obtain ⟨a, cap, rfl⟩ := h.shape
      clear h
      generalize spR zs l = S at *
      generalize spB zs l = BS at *
      generalize medU zs (zs.length - 2) = R at *
      go_enter Try.func18, Try.ntmps18
      go_wp2_with fail
      refine (HG.out _ (by repeat (first | (with_reducible exact Bw.out) | (with_reducible exact Bp.out) | (with_reducible refine below_drewN ?_ _) | (with_reducible exact Below.refl _ _)))).mono ?_
      rw [HR.out]
      rintro e wg ⟨rfl, hb⟩
      have Bw := Lib.hid (below_step Bw.out (by first | exact hb | exact below_undrew hb))
      have Bp := Lib.hid Bw.out
      clear hb
      go_wp2_with fail
      refine (specLeast_any l _).mono ?_
      rw [HT.out]
      rintro e w' ⟨rfl, n1, rfl⟩
      have Bw := Lib.hid (below_drewN Bw.out n1)
      have Bp := Lib.hid Bw.out
      go_wp2
      go_ret2
      exact E.out _ (by repeat (first | (with_reducible exact Bw.out) | (with_reducible exact Bp.out) | (with_reducible refine below_drewN ?_ _) | (with_reducible exact Below.refl _ _)))
    · skip
      have HR := Lib.hid B0
      have HT := Lib.hid B1
      have E := Lib.hid (FY.out (PE.out.trans (by rw [B0, B1]; rfl)))
      have HM := Lib.hid (HM.out B0)
      have hn := (rds_len B0).1
      have FZ := Lib.hid (fun i hi => rds_at B0 i hi)
      have FM := Lib.hid (medU_fin (rds_at B0) (zs.length - 2) (by omega))
      have ML := Lib.hid (medU_len zs (zs.length - 2))
      have LN := Lib.hid (lst_num B1)
      have HC := Lib.hid (fun w1 (hb : Below w.heap.size w w1) (hn : 1 ≤ zs.length) => (h.below hb).cells hn)
      have HC0 := Lib.hid (fun b o c (e : v = .slice (some ⟨b, o, none⟩) zs.length c) w1 (hb : Below w.heap.size w w1) i (hi : i < zs.length) => show w1.cell? ⟨b, o + i, none⟩ = some (.float .f32 (zs.getD i 0)) from by obtain ⟨b9, o9, c9, e9, hc9⟩ := (h.below hb).cells (by omega); rw [e] at e9; cases e9; exact hc9 i hi)
      obtain ⟨b0, o0, c0, rfl, _⟩ := h.cells hn
      have HC0 := Lib.hid (HC0.out b0 o0 c0 rfl)
      have HL := Lib.hid h.len
      have hm := (rds_len B0).2
      clear B0 B1 FN FY h HC
      generalize spR zs l = S at *
      generalize spB zs l = BS at *
      generalize hRR : medU zs (zs.length - 2) = R at *
      clear hRR
      have SY := Lib.hid (fun k h => @spL_yes zs R l k h)
      have SN := Lib.hid (fun k h => @spL_no zs R l k h)
      have SL := Lib.hid (fun k => spL_len zs R l k)
      have S0 := Lib.hid (show spL zs R l 0 = [] from rfl)
      go_enter Try.func18, Try.ntmps18
      go_wp2_with fail
      refine (HG.out _ (by repeat (first | (with_reducible exact Bw.out) | (with_reducible exact Bp.out) | (with_reducible refine below_drewN ?_ _) | (with_reducible exact Below.refl _ _)))).mono ?_
      rw [HR.out]
      rintro e wg ⟨rfl, hb⟩
      have Bw := Lib.hid (below_step Bw.out (by first | exact hb | exact below_undrew hb))
      have Bp := Lib.hid Bw.out
      clear hb
      go_wp2_with fail
      refine (specLeast_any l _).mono ?_
      rw [HT.out]
      rintro e w' ⟨rfl, n1, rfl⟩
      have Bw := Lib.hid (below_drewN Bw.out n1)
      have Bp := Lib.hid Bw.out
      go_wp2_with fail
      refine (HM.out _ (by repeat (first | (with_reducible exact Bw.out) | (with_reducible exact Bp.out) | (with_reducible refine below_drewN ?_ _) | (with_reducible exact Below.refl _ _)))).mono ?_
      rintro e w1 ⟨q, rfl, ho, hb⟩
      have O1 := Lib.hid (Own.lower ho Bw.out.size)
      have Bw := Lib.hid (Bw.out.trans (hb.mono Bw.out.size))
      have Bp := Lib.hid Bw.out
      clear ho hb
      have BD := Lib.hid Bw.out
      obtain ⟨g, cap, rfl⟩ := O1.out.openS (by rw [ML.out]; exact hn)
      have RF := Lib.hid O1.out.rowf.2
      have RG := Lib.hid O1.out.rowf.1
      have HD := Lib.hid (fun w2 hb i hi => rowf_cell (w2 := w2) RF.out hb i hi)
      have BL := Lib.hid BD.out.size
      generalize hk0 : R.length = nr at *
      have hnr : nr = zs.length := ML.out
      subst hnr
      generalize hnn : zs.length = n at *
      clear ML O1
      go_wp2
      go_loopw [7, 8, 22] (fun q _ i wr => ∃ k : Nat, k ≤ n ∧ i = .int .i64 k ∧ Hid (OwnJ wr w1.heap.size q (spL zs R l k)) ∧ Hid (Below w1.heap.size w1 wr)) (fun _ _ i _ => n - (intOf i).toNat)
      case atStart => exact ⟨0, Nat.zero_le _, rfl, Lib.hid (by rw [S0.out]; first | exact OwnJ.nilJ _ _ | exact OwnJ.empty _ _ (Nat.le_refl _)), Lib.hid (by first | exact below_al1 _ _ | exact Below.refl _ _ | exact below_drewN (Below.refl _ _) _)⟩
      case round =>
        obtain ⟨k, hk, rfl, hO, B2⟩ := hrel
        have O2 := Lib.hid hO.out
        have hs2 := Lib.hid B2.out.size
        have gL := HL.out
        have Bq := Lib.hid (BD.out.trans (B2.out.mono BL.out))
        by_cases hlt : k < n
        · have z0 := HC0.out wr Bq.out k hlt
          have y0 := HD.out wr B2.out k (by first | omega | (rw [hk0]; exact hlt))
          have FX := Lib.hid (FZ.out k hlt)
          have FMk := Lib.hid (FM.out k hlt)
          have SYk := Lib.hid (SY.out k)
          have SNk := Lib.hid (SN.out k)
          have QL := Lib.hid (show (spL zs R l k).length ≤ 1048576 by have := SL.out k; omega)
          have hi : (0 : Int) ≤ (k : Int) := by omega
          have hi' : (k : Int) < (n : Int) := by omega
          generalize zs.getD k 0 = x at *
          generalize R.getD k 0 = m at *
          cases C : spO x m l
          · have CK := Lib.hid C
            have SK := Lib.hid (SNk.out C)
            clear C SYk SNk SY SN
            go_wp2
            refine wp_region_loose (fun f args v => f = 53 → ∀ x, args = #[.float .f32 x] → v = .float .f32 (x % 2147483648)) (by kernel_rfl) (by kernel_rfl) ?_
            repeat (first | (refine wpLoose_farith rfl _ _ _ _ _ rfl rfl _ _ _ rfl rfl ?_; intro _ _) | (refine wpLoose_valK rfl ?_ (fun w1 hw1 => ?_) (fun K hK => ?_); rotate_left; (focus (obtain ⟨nq, rfl⟩ := hw1; go_simp; first | done | rfl)); go_simp; refine hK _ ?_; clear hK K))
            rename_i r0 f0
            have er := sp_sub FX.out FMk.out f0
            have hq := (sp_max FX.out FMk.out).2.1
            have hN := nn_small (sp_max FX.out FMk.out).2.2.1
            rw [← er] at hq hN
            have oc : (FloatKind.f32.format.order (r0 % 2147483648) l == some .gt) = false := by rw [er]; exact CK.out
            clear er f0
            refine wpLoose_call rfl 53 #[.float .f32 r0] (fun w1 => ?_) (fun w1 _ => ?_) (fun v hv => ?_)
            · go_simp
            · refine (specSizeN_any r0 hq hN w1).mono ?_
              rintro e w3 ⟨rfl, m3, rfl⟩
              exact ⟨_, rfl, fun _ x hx => by simp at hx; subst hx; rfl, m3, rfl⟩
            obtain rfl := hv rfl _ rfl
            clear hv hq hN
            repeat (first | (refine wpLoose_farith rfl _ _ _ _ _ rfl rfl _ _ _ rfl rfl ?_; intro _ _) | (refine wpLoose_valK rfl ?_ (fun w1 hw1 => ?_) (fun K hK => ?_); rotate_left; (focus (obtain ⟨nq, rfl⟩ := hw1; go_simp; first | done | rfl)); go_simp; refine hK _ ?_; clear hK K))
            (refine wpLoose_nil ?_; rintro _ ⟨nq, rfl⟩)
            clear oc
            go_wp2
            go_roundw
            case rel => exact ⟨k + 1, by omega, by go_num, Lib.hid (by rw [SK.out]; exact O2.out.drewN _), Lib.hid (below_drewN B2.out _)⟩
            case measure => simp [intOf]; omega
          · have CK := Lib.hid C
            have SK := Lib.hid (SYk.out C)
            clear C SYk SNk SY SN
            go_wp2
            refine wp_region_loose (fun f args v => f = 53 → ∀ x, args = #[.float .f32 x] → v = .float .f32 (x % 2147483648)) (by kernel_rfl) (by kernel_rfl) ?_
            repeat (first | (refine wpLoose_farith rfl _ _ _ _ _ rfl rfl _ _ _ rfl rfl ?_; intro _ _) | (refine wpLoose_valK rfl ?_ (fun w1 hw1 => ?_) (fun K hK => ?_); rotate_left; (focus (obtain ⟨nq, rfl⟩ := hw1; go_simp; first | done | rfl)); go_simp; refine hK _ ?_; clear hK K))
            rename_i r0 f0
            have er := sp_sub FX.out FMk.out f0
            have hq := (sp_max FX.out FMk.out).2.1
            have hN := nn_small (sp_max FX.out FMk.out).2.2.1
            rw [← er] at hq hN
            have oc : (FloatKind.f32.format.order (r0 % 2147483648) l == some .gt) = true := by rw [er]; exact CK.out
            clear er f0
            refine wpLoose_call rfl 53 #[.float .f32 r0] (fun w1 => ?_) (fun w1 _ => ?_) (fun v hv => ?_)
            · go_simp
            · refine (specSizeN_any r0 hq hN w1).mono ?_
              rintro e w3 ⟨rfl, m3, rfl⟩
              exact ⟨_, rfl, fun _ x hx => by simp at hx; subst hx; rfl, m3, rfl⟩
            obtain rfl := hv rfl _ rfl
            clear hv hq hN
            repeat (first | (refine wpLoose_farith rfl _ _ _ _ _ rfl rfl _ _ _ rfl rfl ?_; intro _ _) | (refine wpLoose_valK rfl ?_ (fun w1 hw1 => ?_) (fun K hK => ?_); rotate_left; (focus (obtain ⟨nq, rfl⟩ := hw1; go_simp; first | done | rfl)); go_simp; refine hK _ ?_; clear hK K))
            (refine wpLoose_nil ?_; rintro _ ⟨nq, rfl⟩)
            clear oc
            skip
            go_wp2_with (at_builtin; refine wpList_appJ rfl _ _ rfl w1.heap.size _ (spL zs R l k) rfl ((O2.out.drewN _).al _) _ _ (k : Int) rfl ((World.cell?_alloc_at _ _ _ _ (by simp)).trans rfl) QL.out (by have := hs2.out; simp; omega) ?_; intro v' w5 hown' hb; have O3 := Lib.hid hown'; have B3 := Lib.hid (((below_drewN B2.out _).alloc (by have := hs2.out; simp; omega) _).trans hb); clear hown' hb)
            go_roundw
            case rel => exact ⟨k + 1, by omega, by go_num, Lib.hid (by rw [SK.out]; exact O3.out), B3⟩
            case measure => simp [intOf]; omega
        · obtain rfl : k = n := by omega
          go_wp2
          go_ret2
          exact E.out _ _ (O2.out.lower BL.out) Bq.out

set_option maxRecDepth 20000 in
set_option maxHeartbeats 3200000 in
theorem implSpk_any (l : Nat) (v : Value) (zs : List Nat) (w : World) (h : FRow w v zs) : Calls Try.prog 19 #[v, .float .f32 l] w (LstJO (spR zs l) (spB zs l) w) := by
  have Bw := Lib.hid (Below.refl w.heap.size w)
  have Bp := Lib.hid Bw.out
  have HG0 := Lib.hid (fun (e : rds zs = false) w1 (hb : Below w.heap.size w w1) => (show Calls Try.prog 14 #[v] w1 (fun e w2 => e = .returned (.tuple #[.slice none 0 0, .bool false]) ∧ Below w1.heap.size w1 w2) from implMdN_any v zs w1 (h.below hb) e))
  have HM := Lib.hid (fun (e : rds zs = true) w1 (hb : Below w.heap.size w w1) => implMdX_any v zs w1 (h.below hb) e)
  have FN := Lib.hid (fun (e : spB zs l = false) w1 (hb : Below w.heap.size w w1) => sp_no e hb)
  have FY := Lib.hid (fun (e : spB zs l = true) v w1 ho (hb : Below w.heap.size w w1) => sp_yes (v := v) e ho hb)
  have PE := Lib.hid (show spB zs l = (rds zs && lst l) from rfl)
  cases B0 : rds zs
  · skip
    have HR := Lib.hid B0
    have E := Lib.hid (FN.out (PE.out.trans (by rw [B0]; rfl)))
    have HG := Lib.hid (HG0.out B0)
    clear B0 FN FY HM HG0
    obtain ⟨a, cap, rfl⟩ := h.shape
    clear h
    generalize spR zs l = S at *
    generalize spB zs l = BS at *
    go_enter Try.func19, Try.ntmps19
    go_wp2_with fail
    refine (HG.out _ (by repeat (first | (with_reducible exact Bw.out) | (with_reducible exact Bp.out) | (with_reducible refine below_drewN ?_ _) | (with_reducible exact Below.refl _ _)))).mono ?_
    rintro e wg ⟨rfl, hb⟩
    have Bw := Lib.hid (below_step Bw.out (by first | exact hb | exact below_undrew hb))
    have Bp := Lib.hid Bw.out
    clear hb
    go_wp2
    go_ret2
    exact E.out _ (by repeat (first | (with_reducible exact Bw.out) | (with_reducible exact Bp.out) | (with_reducible refine below_drewN ?_ _) | (with_reducible exact Below.refl _ _)))
  · cases B1 : lst l
    · skip
      have HR := Lib.hid B0
      have HT := Lib.hid B1
      have E := Lib.hid (FN.out (PE.out.trans (by rw [B0, B1]; rfl)))
      have HM := Lib.hid (HM.out B0)
      clear B0 B1 FN FY
      obtain ⟨a, cap, rfl⟩ := h.shape
      clear h
      generalize spR zs l = S at *
      generalize spB zs l = BS at *
      generalize medU zs (zs.length - 2) = R at *
      go_enter Try.func19, Try.ntmps19
      go_wp2_with fail
      refine (HM.out _ (by repeat (first | (with_reducible exact Bw.out) | (with_reducible exact Bp.out) | (with_reducible refine below_drewN ?_ _) | (with_reducible exact Below.refl _ _)))).mono ?_
      rintro e w1 ⟨q, rfl, ho, hb⟩
      have O1 := Lib.hid (Own.lower ho Bw.out.size)
      have Bw := Lib.hid (Bw.out.trans (hb.mono Bw.out.size))
      have Bp := Lib.hid Bw.out
      clear ho hb
      go_wp2_with fail
      refine (implNotNeg_any l _).mono ?_
      rw [HT.out]
      rintro e w' ⟨rfl, n1, rfl⟩
      have Bw := Lib.hid (below_drewN Bw.out n1)
      have Bp := Lib.hid Bw.out
      go_wp2
      go_ret2
      exact E.out _ (by repeat (first | (with_reducible exact Bw.out) | (with_reducible exact Bp.out) | (with_reducible refine below_drewN ?_ _) | (with_reducible exact Below.refl _ _)))
    · skip
      have HR := Lib.hid B0
      have HT := Lib.hid B1
      have E := Lib.hid (FY.out (PE.out.trans (by rw [B0, B1]; rfl)))
      have HM := Lib.hid (HM.out B0)
      have hn := (rds_len B0).1
      have FZ := Lib.hid (fun i hi => rds_at B0 i hi)
      have FM := Lib.hid (medU_fin (rds_at B0) (zs.length - 2) (by omega))
      have ML := Lib.hid (medU_len zs (zs.length - 2))
      have LN := Lib.hid (lst_num B1)
      have HC := Lib.hid (fun w1 (hb : Below w.heap.size w w1) (hn : 1 ≤ zs.length) => (h.below hb).cells hn)
      have HC0 := Lib.hid (fun b o c (e : v = .slice (some ⟨b, o, none⟩) zs.length c) w1 (hb : Below w.heap.size w w1) i (hi : i < zs.length) => show w1.cell? ⟨b, o + i, none⟩ = some (.float .f32 (zs.getD i 0)) from by obtain ⟨b9, o9, c9, e9, hc9⟩ := (h.below hb).cells (by omega); rw [e] at e9; cases e9; exact hc9 i hi)
      obtain ⟨b0, o0, c0, rfl, _⟩ := h.cells hn
      have HC0 := Lib.hid (HC0.out b0 o0 c0 rfl)
      have HL := Lib.hid h.len
      have hm := (rds_len B0).2
      clear B0 B1 FN FY h HC
      generalize spR zs l = S at *
      generalize spB zs l = BS at *
      generalize hRR : medU zs (zs.length - 2) = R at *
      clear hRR
      have SY := Lib.hid (fun k h => @spL_yes zs R l k h)
      have SN := Lib.hid (fun k h => @spL_no zs R l k h)
      have SL := Lib.hid (fun k => spL_len zs R l k)
      have S0 := Lib.hid (show spL zs R l 0 = [] from rfl)
      go_enter Try.func19, Try.ntmps19
      go_wp2_with fail
      refine (HM.out _ (by repeat (first | (with_reducible exact Bw.out) | (with_reducible exact Bp.out) | (with_reducible refine below_drewN ?_ _) | (with_reducible exact Below.refl _ _)))).mono ?_
      rintro e w1 ⟨q, rfl, ho, hb⟩
      have O1 := Lib.hid (Own.lower ho Bw.out.size)
      have Bw := Lib.hid (Bw.out.trans (hb.mono Bw.out.size))
      have Bp := Lib.hid Bw.out
      clear ho hb
      have BD := Lib.hid Bw.out
      go_wp2_with fail
      refine (implNotNeg_any l _).mono ?_
      rw [HT.out]
      rintro e w' ⟨rfl, n1, rfl⟩
      have Bw := Lib.hid (below_drewN Bw.out n1)
      have Bp := Lib.hid Bw.out
      obtain ⟨g, cap, rfl⟩ := O1.out.openS (by rw [ML.out]; exact hn)
      have RF := Lib.hid O1.out.rowf.2
      have RG := Lib.hid O1.out.rowf.1
      have HD := Lib.hid (fun w2 hb i hi => rowf_cell (w2 := w2) RF.out hb i hi)
      have BL := Lib.hid BD.out.size
      generalize hk0 : R.length = nr at *
      have hnr : nr = zs.length := ML.out
      subst hnr
      generalize hnn : zs.length = n at *
      clear ML O1
      have Bz := Lib.hid (Below.refl w1.heap.size w1)
      go_wp2
      go_loopw [8, 9, 10, 11, 26] (fun q _ _ _ i wr => ∃ k : Nat, k ≤ n ∧ i = .int .i64 k ∧ Hid (OwnJ wr w1.heap.size q (spL zs R l k)) ∧ Hid (Below w1.heap.size w1 wr)) (fun _ _ _ _ i _ => n - (intOf i).toNat)
      case atStart => exact ⟨0, Nat.zero_le _, rfl, Lib.hid (by rw [S0.out]; first | exact OwnJ.nilJ _ _ | exact OwnJ.empty _ _ (Nat.le_refl _)), Lib.hid (by first | exact below_al1 _ _ | exact Below.refl _ _ | exact below_drewN (Below.refl _ _) _)⟩
      case round =>
        obtain ⟨k, hk, rfl, hO, B2⟩ := hrel
        have O2 := Lib.hid hO.out
        have hs2 := Lib.hid B2.out.size
        have gL := HL.out
        have Bq := Lib.hid (BD.out.trans (B2.out.mono BL.out))
        by_cases hlt : k < n
        · have z0 := HC0.out wr Bq.out k hlt
          have y0 := HD.out wr B2.out k (by first | omega | (rw [hk0]; exact hlt))
          have FX := Lib.hid (FZ.out k hlt)
          have FMk := Lib.hid (FM.out k hlt)
          have SYk := Lib.hid (SY.out k)
          have SNk := Lib.hid (SN.out k)
          have QL := Lib.hid (show (spL zs R l k).length ≤ 1048576 by have := SL.out k; omega)
          have hi : (0 : Int) ≤ (k : Int) := by omega
          have hi' : (k : Int) < (n : Int) := by omega
          generalize zs.getD k 0 = x at *
          generalize R.getD k 0 = m at *
          cases C : spO x m l
          · have CK := Lib.hid C
            have SK := Lib.hid (SNk.out C)
            clear C SYk SNk SY SN
            have oc : (FloatKind.f32.format.order (spS x m) l == some .gt) = false := CK.out
            go_wp2
            refine wp_region_loose (fun _ _ _ => True) (by kernel_rfl) (by kernel_rfl) ?_
            repeat (first | (refine wpLoose_farith rfl _ _ _ _ _ rfl rfl _ _ _ rfl rfl ?_; intro _ _) | (refine wpLoose_valK rfl ?_ (fun w1 hw1 => ?_) (fun K hK => ?_); rotate_left; (focus (obtain ⟨nq, rfl⟩ := hw1; go_simp; first | done | rfl)); go_simp; refine hK _ ?_; clear hK K))
            rename_i r0 f0 r1 f1
            have e0 := sp_sub FX.out FMk.out f0
            have e1 := sp_sub FMk.out FX.out f1
            have N0 := Lib.hid (nn_small (sp_max FX.out FMk.out).2.2.1)
            have N1 := Lib.hid (nn_small (sp_max FX.out FMk.out).2.2.2.2)
            have NM := Lib.hid (sp_max FX.out FMk.out).1
            rw [← e0, ← e1] at NM
            rw [← e0] at N0
            rw [← e1] at N1
            clear e0 e1 f0 f1
            (refine wpLoose_valK rfl (.float .f32 (spS x m)) (fun w1 hw1 => ?_) (fun K hK => ?_); (focus (obtain ⟨nq, rfl⟩ := hw1; go_simp; rw [run_maxN _ _ r0 r1 _ N0.out N1.out, NM.out]; try rfl)); go_simp; refine hK _ ?_; clear hK K)
            repeat (first | (refine wpLoose_farith rfl _ _ _ _ _ rfl rfl _ _ _ rfl rfl ?_; intro _ _) | (refine wpLoose_valK rfl ?_ (fun w1 hw1 => ?_) (fun K hK => ?_); rotate_left; (focus (obtain ⟨nq, rfl⟩ := hw1; go_simp; first | done | rfl)); go_simp; refine hK _ ?_; clear hK K))
            (refine wpLoose_nil ?_; rintro _ ⟨nq, rfl⟩)
            clear N0 N1 NM
            go_wp2
            go_roundw
            case rel => exact ⟨k + 1, by omega, by go_num, Lib.hid (by rw [SK.out]; exact O2.out.drewN _), Lib.hid (below_drewN B2.out _)⟩
            case measure => simp [intOf]; omega
          · have CK := Lib.hid C
            have SK := Lib.hid (SYk.out C)
            clear C SYk SNk SY SN
            have oc : (FloatKind.f32.format.order (spS x m) l == some .gt) = true := CK.out
            go_wp2
            refine wp_region_loose (fun _ _ _ => True) (by kernel_rfl) (by kernel_rfl) ?_
            repeat (first | (refine wpLoose_farith rfl _ _ _ _ _ rfl rfl _ _ _ rfl rfl ?_; intro _ _) | (refine wpLoose_valK rfl ?_ (fun w1 hw1 => ?_) (fun K hK => ?_); rotate_left; (focus (obtain ⟨nq, rfl⟩ := hw1; go_simp; first | done | rfl)); go_simp; refine hK _ ?_; clear hK K))
            rename_i r0 f0 r1 f1
            have e0 := sp_sub FX.out FMk.out f0
            have e1 := sp_sub FMk.out FX.out f1
            have N0 := Lib.hid (nn_small (sp_max FX.out FMk.out).2.2.1)
            have N1 := Lib.hid (nn_small (sp_max FX.out FMk.out).2.2.2.2)
            have NM := Lib.hid (sp_max FX.out FMk.out).1
            rw [← e0, ← e1] at NM
            rw [← e0] at N0
            rw [← e1] at N1
            clear e0 e1 f0 f1
            (refine wpLoose_valK rfl (.float .f32 (spS x m)) (fun w1 hw1 => ?_) (fun K hK => ?_); (focus (obtain ⟨nq, rfl⟩ := hw1; go_simp; rw [run_maxN _ _ r0 r1 _ N0.out N1.out, NM.out]; try rfl)); go_simp; refine hK _ ?_; clear hK K)
            repeat (first | (refine wpLoose_farith rfl _ _ _ _ _ rfl rfl _ _ _ rfl rfl ?_; intro _ _) | (refine wpLoose_valK rfl ?_ (fun w1 hw1 => ?_) (fun K hK => ?_); rotate_left; (focus (obtain ⟨nq, rfl⟩ := hw1; go_simp; first | done | rfl)); go_simp; refine hK _ ?_; clear hK K))
            (refine wpLoose_nil ?_; rintro _ ⟨nq, rfl⟩)
            clear N0 N1 NM
            skip
            go_wp2_with (at_builtin; refine wpList_appJ rfl _ _ rfl w1.heap.size _ (spL zs R l k) rfl ((O2.out.drewN _).al _) _ _ (k : Int) rfl ((World.cell?_alloc_at _ _ _ _ (by simp)).trans rfl) QL.out (by have := hs2.out; simp; omega) ?_; intro v' w5 hown' hb; have O3 := Lib.hid hown'; have B3 := Lib.hid (((below_drewN B2.out _).alloc (by have := hs2.out; simp; omega) _).trans hb); clear hown' hb)
            go_roundw
            case rel => exact ⟨k + 1, by omega, by go_num, Lib.hid (by rw [SK.out]; exact O3.out), B3⟩
            case measure => simp [intOf]; omega
        · obtain rfl : k = n := by omega
          go_wp2
          go_ret2
          exact E.out _ _ (O2.out.lower BL.out) Bq.out

set_option maxRecDepth 20000 in
set_option maxHeartbeats 3200000 in
theorem fnExactSpikesIn_walk (v : Value) (zs : List Nat) (l : Nat) (w : World) (h : FRow w v zs) (_ : (Lit.float .f32 l).wf = true) : Calls Try.prog 4 #[v, .float .f32 l] w (Tru w) := by
  have CS := Lib.hid (fun v w1 (hr : FRow w1 v zs) => specSpk_any l v zs w1 hr)
  have CI := Lib.hid (fun v w1 (hr : FRow w1 v zs) => implSpk_any l v zs w1 hr)
  have HS := Lib.hid (spR_len zs l)
  generalize spR zs l = S at *
  generalize spB zs l = bb at *
  have HL := Lib.hid h.len
  by_cases hl : zs.length ≤ 1048576
  · have HN := Lib.hid hl
    have A := Lib.hid h
    obtain ⟨a, cap, rfl⟩ := h.shape
    clear h
    have SM : Hid (S.length ≤ maxLen) := Lib.hid (Nat.le_trans HS.out (by decide))
    have S4 : Hid (S.length ≤ 400) := HS
    have EQ := Lib.hid (fun v v1 zs ys w1 (h : FRow w1 v zs) (h1 : FRow w1 v1 ys) (hs : SameList zs ys) => (show Calls Try.prog 15 #[v, v1] w1 (fun e w2 => e = .returned (.bool true) ∧ Below w1.heap.size w1 w2) from (eqF_any v v1 zs ys w1 h h1 hs).mono (fun _ _ ⟨he, n, hw⟩ => ⟨he, by rw [hw]; exact below_drewN (Below.refl _ _) n⟩)))
    have Bw := Lib.hid (Below.refl w.heap.size w)
    go_enter Try.func4, Try.ntmps4
    go_wp2_with fail
    refine (toF_new _ zs _ A.out HN.out).mono ?_
    rintro _ w1 ⟨rfl, hr, hb, _⟩
    have X := Lib.hid hr
    clear hr
    have Bw := Lib.hid (below_step Bw.out hb)
    have A := Lib.hid (A.out.below hb)
    clear hb
    go_wp2_with fail
    refine (CS.out _ _ X.out).mono ?_
    rintro _ w2 ⟨y, rfl, hO, hb⟩
    have Y := Lib.hid (hO.frow SM.out)
    clear hO X
    have Bw := Lib.hid (below_step Bw.out hb)
    have A := Lib.hid (A.out.below hb)
    clear hb
    have B3 := Lib.hid (Below.refl w2.heap.size w2)
    have RV := Lib.hid A.out
    clear A
    go_wp2_with fail
    refine (toF_new _ zs _ (RV.out.below B3.out) HN.out).mono ?_
    rintro _ w3 ⟨rfl, hr, hb, hcl⟩
    have X := Lib.hid hr
    have XC := Lib.hid hcl
    clear hr hcl
    have B3 := Lib.hid (below_step B3.out hb)
    clear hb
    have XL := Lib.hid XC.out.lt
    have B5 := Lib.hid B3.out.size
    go_wp2_with fail
    refine (CI.out _ _ X.out).mono ?_
    rintro _ w4 ⟨g, rfl, hO, hb⟩
    have O := Lib.hid hO
    have H6 := Lib.hid hb.size
    clear hO
    have B3 := Lib.hid (below_step B3.out hb)
    have X := Lib.hid (X.out.below hb)
    have XC := Lib.hid (XC.out.kept hb)
    clear hb
    go_wp2_with fail
    refine (eqJB2_any _ _ S _ (O.out.frow SM.out) (Y.out.below B3.out)).mono ?_
    rintro _ w5 ⟨rfl, hb⟩
    have H6 := Lib.hid (Nat.le_trans H6.out hb.size)
    have B3 := Lib.hid (below_step B3.out hb)
    have X := Lib.hid (X.out.below hb)
    have XC := Lib.hid (XC.out.kept hb)
    have O := Lib.hid (O.out.kept hb)
    clear hb
    go_wp2_with fail
    refine (toF_new _ zs _ (RV.out.below B3.out) HN.out).mono ?_
    rintro _ w6 ⟨rfl, hr, hb, _⟩
    have Z := Lib.hid hr
    clear hr
    have H6 := Lib.hid (Nat.le_trans H6.out hb.size)
    have B3 := Lib.hid (below_step B3.out hb)
    have X := Lib.hid (X.out.below hb)
    have XC := Lib.hid (XC.out.kept hb)
    have O := Lib.hid (O.out.kept hb)
    clear hb
    go_wp2_with fail
    refine (EQ.out _ _ zs zs _ X.out Z.out (SameList.refl _)).mono ?_
    rintro _ w7 ⟨rfl, hb⟩
    clear Z X
    have H6 := Lib.hid (Nat.le_trans H6.out hb.size)
    have B3 := Lib.hid (below_step B3.out hb)
    have XC := Lib.hid (XC.out.kept hb)
    have O := Lib.hid (O.out.kept hb)
    clear hb
    go_wp2_with fail
    refine (markX _ zs _ XC.out HN.out).mono ?_
    rintro _ w8 ⟨rfl, hon⟩
    have B3 := Lib.hid (B3.out.trans (hon.below (Nat.le_refl _)))
    have O := Lib.hid (O.out.far hon XL.out)
    have H6 := Lib.hid (Nat.le_trans H6.out (hon.below (Nat.zero_le _)).size)
    clear hon XC
    go_wp2_with fail
    refine (eqJB2_any _ _ S _ (O.out.frow SM.out) (Y.out.below B3.out)).mono ?_
    rintro _ w9 ⟨rfl, hb⟩
    have H6 := Lib.hid (Nat.le_trans H6.out hb.size)
    have B3 := Lib.hid (below_step B3.out hb)
    have O := Lib.hid (O.out.kept hb)
    clear hb
    go_wp2_with fail
    refine (markJO O.out S4.out).mono ?_
    rintro _ w10 ⟨rfl, hO, hm⟩
    have hb := hm H6.out
    have H6 := Lib.hid (Nat.le_trans H6.out hb.size)
    have B3 := Lib.hid (B3.out.trans (hb.mono B5.out))
    have O := Lib.hid hO
    clear hO hm hb
    go_wp2_with fail
    refine (heldJO O.out S4.out).mono ?_
    rintro _ w11 ⟨rfl, rfl⟩
    go_wp2_with fail
    refine (toF_new _ zs _ (RV.out.below B3.out) HN.out).mono ?_
    rintro _ w12 ⟨rfl, hr, hb, _⟩
    have Z := Lib.hid hr
    clear hr
    have B3 := Lib.hid (below_step B3.out hb)
    have O := Lib.hid (O.out.kept hb)
    clear hb
    go_wp2_with fail
    refine (CI.out _ _ Z.out).mono ?_
    rintro _ w13 ⟨f, rfl, hO, hb⟩
    have FR := Lib.hid (hO.frow SM.out)
    clear hO Z
    have B3 := Lib.hid (below_step B3.out hb)
    have O := Lib.hid (O.out.kept hb)
    clear hb
    go_wp2_with fail
    refine (eqJB2_any _ _ S _ FR.out (Y.out.below B3.out)).mono ?_
    rintro _ w14 ⟨rfl, hb⟩
    have B3 := Lib.hid (below_step B3.out hb)
    have O := Lib.hid (O.out.kept hb)
    clear hb
    go_wp2_with fail
    refine (heldJO O.out S4.out).mono ?_
    rintro _ w15 ⟨rfl, rfl⟩
    go_wp2
    go_ret
    exact Tru.below (below_step Bw.out B3.out)
  · obtain ⟨a, cap, rfl⟩ := h.shape
    clear h
    have gL := HL.out
    go_enter Try.func4, Try.ntmps4
    go_wp2
    go_ret
    exact Tru.same


end Go.Proofs.Ytabdinmodopadaa
