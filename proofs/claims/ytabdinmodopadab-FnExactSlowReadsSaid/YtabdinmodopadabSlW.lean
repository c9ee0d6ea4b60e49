/- What slow sensors tell, and what they were told: both sides, and the laws. -/
import Derived.Test.YtabdinmodopadabSlP
namespace Go.Proofs.Ytabdinmodopadab
open Go.RowKit
set_option linter.unusedVariables false

theorem Sl_len (zs : List Nat) (f t u c : Nat) : (lstS (snB zs f t u) (slL zs (snK c) f zs.length)).length ≤ 400 := by
  cases h : snB zs f t u
  · unfold lstS; simp
  · have h1 : rds zs = true := by
      exact (sn_parts h).1
    exact lstS_le (by rw [slL_len]; have := (rds_len h1).2; omega)

set_option maxRecDepth 20000 in
set_option maxHeartbeats 3200000 in
theorem specSl_any (f t u c : Nat) (v : Value) (zs : List Nat) (w : World) (h : FRow w v zs) (hc : pos t = true → pos u = true → ∀ w, Calls Try.prog 59 #[.float .f32 (snA t u)] w (ExV c w)) : Calls Try.prog 13 #[v, .float .f32 f, .float .f32 t, .float .f32 u] w (LstO (lstS (snB zs f t u) (slL zs (snK c) f zs.length)) (lstG (snB zs f t u) (slL zs (snK c) f zs.length)) w) := by
  have Bw := Lib.hid (Below.refl w.heap.size w)
  have Bp := Lib.hid Bw.out
  have HG := Lib.hid (fun w1 (hb : Below w.heap.size w w1) => specSn_any v zs f t u w1 (h.below hb))
  have HK := Lib.hid (fun (e : snB zs f t u = true) w1 => specKn_any t u c w1 (sn_parts e).2.1 (sn_parts e).2.2 (hc (sn_parts e).2.1 (sn_parts e).2.2))
  have HC := Lib.hid (fun w1 (hb : Below w.heap.size w w1) (hn : 1 ≤ zs.length) => (h.below hb).cells hn)
  have HL := Lib.hid h.len
  have FN := Lib.hid (fun (e : snB zs f t u = false) w1 (hb : Below w.heap.size w w1) => sl_bad (S := (slL zs (snK c) f zs.length)) e hb)
  have FI := Lib.hid (fun ys w1 hm h (hb : Below w.heap.size w w1) => @sl_inf (snB zs f t u) ys (slL zs (snK c) f zs.length) w w1 hm h hb)
  have FY := Lib.hid (fun (e : snB zs f t u = true) v ys w1 hm h ho (hb : Below w.heap.size w w1) => @sl_yes (snB zs f t u) v ys (slL zs (snK c) f zs.length) w w1 e hm h ho hb)
  have HZ := Lib.hid (fun (e : snB zs f t u = true) => (rds_len (sn_parts e).1).2)
  have LE := Lib.hid (fun i => show slL zs (snK c) f (i + 1) = slL zs (snK c) f i ++ [slS zs (snK c) f (i + 1)] from rfl)
  have LN := Lib.hid (fun i => slL_len zs (snK c) f i)
  have L0 := Lib.hid (show slL zs (snK c) f 0 = [] from rfl)
  have VO := Lib.hid (fun i s kv r0 r1 r2 hs hk f0 f1 f2 => @slS_of zs (snK c) f i s kv r0 r1 r2 hs hk f0 f1 f2)
  have V0 := Lib.hid (show cn .f32 f = slS zs (snK c) f 0 from rfl)
  obtain ⟨a, cap, rfl⟩ := h.shape
  clear h hc
  generalize lstS (snB zs f t u) (slL zs (snK c) f zs.length) = S at *
  generalize lstG (snB zs f t u) (slL zs (snK c) f zs.length) = O at *
  cases B0 : snB zs f t u
  · skip
    have E := Lib.hid (FN.out B0)
    have HS := Lib.hid B0
    clear B0 FN FI FY HZ HK
    go_enter Try.func13, Try.ntmps13
    go_wp2_with fail
    refine (HG.out _ (by repeat (first | (with_reducible exact Bw.out) | (with_reducible exact Bp.out) | (with_reducible refine below_drewN ?_ _) | (with_reducible exact Below.refl _ _)))).mono ?_
    rw [HS.out]
    rintro e wg ⟨rfl, hb⟩
    have Bw := Lib.hid (((by repeat (first | (with_reducible exact Bw.out) | (with_reducible exact Bp.out) | (with_reducible refine below_drewN ?_ _) | (with_reducible exact Below.refl _ _))) : Below w.heap.size w _).trans (hb.mono ((by repeat (first | (with_reducible exact Bw.out) | (with_reducible exact Bp.out) | (with_reducible refine below_drewN ?_ _) | (with_reducible exact Below.refl _ _))) : Below w.heap.size w _).size))
    have Bp := Lib.hid Bw.out
    clear hb
    go_wp2
    go_ret2
    exact E.out _ (by repeat (first | (with_reducible exact Bw.out) | (with_reducible exact Bp.out) | (with_reducible refine below_drewN ?_ _) | (with_reducible exact Below.refl _ _)))
  · have HS := Lib.hid B0
    have HK := Lib.hid (HK.out B0)
    have hz := HZ.out B0
    have FYe := Lib.hid (FY.out B0)
    clear B0 FN FY HZ
    generalize hnn : zs.length = n at *
    clear hnn
    go_enter Try.func13, Try.ntmps13
    go_wp2_with fail
    refine (HG.out _ (by repeat (first | (with_reducible exact Bw.out) | (with_reducible exact Bp.out) | (with_reducible refine below_drewN ?_ _) | (with_reducible exact Below.refl _ _)))).mono ?_
    rw [HS.out]
    rintro e wg ⟨rfl, hb⟩
    have Bw := Lib.hid (((by repeat (first | (with_reducible exact Bw.out) | (with_reducible exact Bp.out) | (with_reducible refine below_drewN ?_ _) | (with_reducible exact Below.refl _ _))) : Below w.heap.size w _).trans (hb.mono ((by repeat (first | (with_reducible exact Bw.out) | (with_reducible exact Bp.out) | (with_reducible refine below_drewN ?_ _) | (with_reducible exact Below.refl _ _))) : Below w.heap.size w _).size))
    have Bp := Lib.hid Bw.out
    clear hb
    go_wp2_with fail
    refine (HK.out _).mono ?_
    rintro e w' ⟨kv, nk, hk, rfl, rfl⟩
    have K := Lib.hid hk
    clear hk
    generalize hkk : snK c = kc at *
    clear hkk
    go_wp2
    go_loopw [11, 12, 13, 27] (fun q s _ i wr => ∃ k : Nat, k ≤ n ∧ i = .int .i64 k ∧ (∃ s0 : Nat, s = .float .f32 s0 ∧ Hid (cn .f32 s0 = slS zs kc f k)) ∧ Hid (∃ ys : List Nat, Own wr w.heap.size q ys ∧ ys.map (cn .f32) = slL zs kc f k) ∧ Hid (Below w.heap.size w wr)) (fun _ _ _ i _ => n - (intOf i).toNat)
    case atStart => exact ⟨0, Nat.zero_le _, rfl, ⟨f, rfl, V0⟩, Lib.hid ⟨[], (by first | exact Own.nil _ _ | exact Own.empty _ _ ((by repeat (first | (with_reducible exact Bw.out) | (with_reducible exact Bp.out) | (with_reducible refine below_drewN ?_ _) | (with_reducible exact Below.refl _ _))) : Below w.heap.size w _).size), by rw [L0.out]; rfl⟩, Lib.hid (by repeat (first | (with_reducible exact Bw.out) | (with_reducible exact Bp.out) | (with_reducible refine below_drewN ?_ _) | (refine Below.alloc ?_ (by first | exact Bp.out.size | exact Bw.out.size) _)))⟩
    case round =>
      obtain ⟨k, hk, rfl, HS1, HO, B2⟩ := hrel
      have hs2 := Lib.hid B2.out.size
      have gL := HL.out
      obtain ⟨s0, rfl, HV⟩ := HS1
      obtain ⟨ys, O2, HM⟩ := HO.out
      have O2 := Lib.hid O2
      have HM := Lib.hid HM
      clear HO
      by_cases hlt : k < n
      · obtain ⟨b0, o0, c0, e, hc⟩ := HC.out wr B2.out (by omega)
        have ea : a = some ⟨b0, o0, none⟩ := by cases e; rfl
        have z0 := hc k hlt
        have VOk := Lib.hid (VO.out k)
        have LEk := Lib.hid (LE.out k)
        have QZ := Lib.hid (show ys.length ≤ 1048576 by rw [len_of_map HM.out, LN.out]; omega)
        skip
        clear e hc
        subst ea
        have Z3 := Lib.hid (fun w1 (hb : Below w.heap.size w w1) => (show w1.cell? ⟨b0, o0 + k, none⟩ = some (.float .f32 (zs.getD k 0)) from by obtain ⟨b9, o9, c9, e9, hc9⟩ := HC.out w1 hb (by omega); cases e9; exact hc9 k hlt))
        have hi : (0 : Int) ≤ (k : Int) := by omega
        have hi' : (k : Int) < (n : Int) := by omega
        generalize zs.getD k 0 = x at *
        skip
        go_wp2_with (refine wpList_farith rfl _ _ _ _ _ rfl rfl _ _ _ rfl rfl ?_; intro r0 j0 g0; have f0 := Lib.hid g0; clear g0; refine Stop.go ?_)
        refine Stop.mk ?_
        go_wp2_with (refine wpList_farith rfl _ _ _ _ _ rfl rfl _ _ _ rfl rfl ?_; intro r1 j1 g1; have f1 := Lib.hid g1; clear g1; refine Stop.go ?_)
        refine Stop.mk ?_
        go_wp2_with (refine wpList_farith rfl _ _ _ _ _ rfl rfl _ _ _ rfl rfl ?_; intro r2 j2 g2; have f2 := Lib.hid g2; clear g2; refine Stop.go ?_)
        refine Stop.mk ?_
        have NV := Lib.hid (VOk.out s0 kv r0 r1 r2 HV.out K.out f0.out f1.out f2.out)
        clear f0 f1 f2
        go_wp2_with (at_builtin; refine wpList_app32 rfl _ _ rfl w.heap.size _ ys rfl ((O2.out.drewN _).al _) _ r2 _ rfl ((World.cell?_alloc_at _ _ _ _ (by simp)).trans rfl) QZ.out (by have := hs2.out; simp; omega) ?_; intro v' w3 hown' hb; have O3 := Lib.hid hown'; have B3 := Lib.hid (((below_drewN B2.out _).alloc (by have := hs2.out; simp; omega) _).trans hb); have z3 := Z3.out w3 B3.out; clear hown' hb)
        go_roundw
        case rel => exact ⟨k + 1, by omega, by go_num, ⟨r2, rfl, NV⟩, Lib.hid ⟨ys ++ [r2], O3.out, by rw [LEk.out]; exact map_snoc HM.out NV.out⟩, B3⟩
        case measure => simp [intOf]; omega
      · obtain rfl : k = n := by omega
        have QZ := Lib.hid (show ys.length ≤ 1048576 by rw [len_of_map HM.out, LN.out]; omega)
        have FR := Lib.hid (O2.out.row QZ.out)
        clear VO LE LN V0 L0
        obtain ⟨a1, c1, e1⟩ := FR.out.shape
        subst e1
        cases A : ys.all (fin .f32)
        · have HA := Lib.hid A
          have E := Lib.hid (FI.out ys)
          clear A
          go_wp2_with fail
          refine (specFinL_any _ ys _ FR.out).mono ?_
          rw [HA.out]
          rintro e w' ⟨rfl, nq, rfl⟩
          go_wp2
          go_ret2
          exact E.out _ HM.out HA.out (by first | exact B2.out | exact below_drewN B2.out _)
        · have HA := Lib.hid A
          have E := Lib.hid (FYe.out (.slice a1 ys.length c1) ys)
          clear A
          go_wp2_with fail
          refine (specFinL_any _ ys _ FR.out).mono ?_
          rw [HA.out]
          rintro e w' ⟨rfl, nq, rfl⟩
          go_wp2
          go_ret2
          exact E.out _ HM.out HA.out (by first | exact O2.out | exact O2.out.drewN _) (by first | exact B2.out | exact below_drewN B2.out _)
set_option maxRecDepth 20000 in
set_option maxHeartbeats 3200000 in
theorem implSl_any (f t u c : Nat) (v : Value) (zs : List Nat) (w : World) (h : FRow w v zs) (hc : pos t = true → pos u = true → ∀ w, Calls Try.prog 64 #[.float .f32 (snA t u)] w (ExV c w)) : Calls Try.prog 15 #[v, .float .f32 f, .float .f32 t, .float .f32 u] w (LstO (lstS (snB zs f t u) (slL zs (snK c) f zs.length)) (lstG (snB zs f t u) (slL zs (snK c) f zs.length)) w) := by
  have Bw := Lib.hid (Below.refl w.heap.size w)
  have Bp := Lib.hid Bw.out
  have HG := Lib.hid (fun w1 (hb : Below w.heap.size w w1) => implSn_any v zs f t u w1 (h.below hb))
  have HK := Lib.hid (fun (e : snB zs f t u = true) w1 => implKn_any t u c w1 (sn_parts e).2.1 (sn_parts e).2.2 (hc (sn_parts e).2.1 (sn_parts e).2.2))
  have HC := Lib.hid (fun w1 (hb : Below w.heap.size w w1) (hn : 1 ≤ zs.length) => (h.below hb).cells hn)
  have HL := Lib.hid h.len
  have FN := Lib.hid (fun (e : snB zs f t u = false) w1 (hb : Below w.heap.size w w1) => sl_bad (S := (slL zs (snK c) f zs.length)) e hb)
  have FI := Lib.hid (fun ys w1 hm h (hb : Below w.heap.size w w1) => @sl_inf (snB zs f t u) ys (slL zs (snK c) f zs.length) w w1 hm h hb)
  have FY := Lib.hid (fun (e : snB zs f t u = true) v ys w1 hm h ho (hb : Below w.heap.size w w1) => @sl_yes (snB zs f t u) v ys (slL zs (snK c) f zs.length) w w1 e hm h ho hb)
  have HZ := Lib.hid (fun (e : snB zs f t u = true) => (rds_len (sn_parts e).1).2)
  have LE := Lib.hid (fun i => show slL zs (snK c) f (i + 1) = slL zs (snK c) f i ++ [slS zs (snK c) f (i + 1)] from rfl)
  have LN := Lib.hid (fun i => slL_len zs (snK c) f i)
  have L0 := Lib.hid (show slL zs (snK c) f 0 = [] from rfl)
  have VO := Lib.hid (fun i s kv r0 r1 r2 hs hk f0 f1 f2 => @slS_of zs (snK c) f i s kv r0 r1 r2 hs hk f0 f1 f2)
  have V0 := Lib.hid (show cn .f32 f = slS zs (snK c) f 0 from rfl)
  obtain ⟨a, cap, rfl⟩ := h.shape
  clear h hc
  generalize lstS (snB zs f t u) (slL zs (snK c) f zs.length) = S at *
  generalize lstG (snB zs f t u) (slL zs (snK c) f zs.length) = O at *
  cases B0 : snB zs f t u
  · skip
    have E := Lib.hid (FN.out B0)
    have HS := Lib.hid B0
    clear B0 FN FI FY HZ HK
    go_enter Try.func15, Try.ntmps15
    go_wp2_with fail
    refine (HG.out _ (by repeat (first | (with_reducible exact Bw.out) | (with_reducible exact Bp.out) | (with_reducible refine below_drewN ?_ _) | (with_reducible exact Below.refl _ _)))).mono ?_
    rw [HS.out]
    rintro e wg ⟨rfl, hb⟩
    have Bw := Lib.hid (((by repeat (first | (with_reducible exact Bw.out) | (with_reducible exact Bp.out) | (with_reducible refine below_drewN ?_ _) | (with_reducible exact Below.refl _ _))) : Below w.heap.size w _).trans (hb.mono ((by repeat (first | (with_reducible exact Bw.out) | (with_reducible exact Bp.out) | (with_reducible refine below_drewN ?_ _) | (with_reducible exact Below.refl _ _))) : Below w.heap.size w _).size))
    have Bp := Lib.hid Bw.out
    clear hb
    go_wp2
    go_ret2
    exact E.out _ (by repeat (first | (with_reducible exact Bw.out) | (with_reducible exact Bp.out) | (with_reducible refine below_drewN ?_ _) | (with_reducible exact Below.refl _ _)))
  · have HS := Lib.hid B0
    have HK := Lib.hid (HK.out B0)
    have hz := HZ.out B0
    have FYe := Lib.hid (FY.out B0)
    clear B0 FN FY HZ
    generalize hnn : zs.length = n at *
    clear hnn
    go_enter Try.func15, Try.ntmps15
    go_wp2_with fail
    refine (HG.out _ (by repeat (first | (with_reducible exact Bw.out) | (with_reducible exact Bp.out) | (with_reducible refine below_drewN ?_ _) | (with_reducible exact Below.refl _ _)))).mono ?_
    rw [HS.out]
    rintro e wg ⟨rfl, hb⟩
    have Bw := Lib.hid (((by repeat (first | (with_reducible exact Bw.out) | (with_reducible exact Bp.out) | (with_reducible refine below_drewN ?_ _) | (with_reducible exact Below.refl _ _))) : Below w.heap.size w _).trans (hb.mono ((by repeat (first | (with_reducible exact Bw.out) | (with_reducible exact Bp.out) | (with_reducible refine below_drewN ?_ _) | (with_reducible exact Below.refl _ _))) : Below w.heap.size w _).size))
    have Bp := Lib.hid Bw.out
    clear hb
    go_wp2_with fail
    refine (HK.out _).mono ?_
    rintro e w' ⟨kv, nk, hk, rfl, rfl⟩
    have K := Lib.hid hk
    clear hk
    generalize hkk : snK c = kc at *
    clear hkk
    go_wp2
    go_loopw [11, 12, 14, 27] (fun s q _ i wr => ∃ k : Nat, k ≤ n ∧ i = .int .i64 k ∧ (∃ s0 : Nat, s = .float .f32 s0 ∧ Hid (cn .f32 s0 = slS zs kc f k)) ∧ Hid (∃ ys : List Nat, Own wr w.heap.size q ys ∧ ys.map (cn .f32) = slL zs kc f k) ∧ Hid (Below w.heap.size w wr)) (fun _ _ _ i _ => n - (intOf i).toNat)
    case atStart => exact ⟨0, Nat.zero_le _, rfl, ⟨f, rfl, V0⟩, Lib.hid ⟨[], (by first | exact Own.nil _ _ | exact Own.empty _ _ ((by repeat (first | (with_reducible exact Bw.out) | (with_reducible exact Bp.out) | (with_reducible refine below_drewN ?_ _) | (with_reducible exact Below.refl _ _))) : Below w.heap.size w _).size), by rw [L0.out]; rfl⟩, Lib.hid (by repeat (first | (with_reducible exact Bw.out) | (with_reducible exact Bp.out) | (with_reducible refine below_drewN ?_ _) | (with_reducible exact Below.refl _ _)))⟩
    case round =>
      obtain ⟨k, hk, rfl, HS1, HO, B2⟩ := hrel
      have hs2 := Lib.hid B2.out.size
      have gL := HL.out
      obtain ⟨s0, rfl, HV⟩ := HS1
      obtain ⟨ys, O2, HM⟩ := HO.out
      have O2 := Lib.hid O2
      have HM := Lib.hid HM
      clear HO
      by_cases hlt : k < n
      · obtain ⟨b0, o0, c0, e, hc⟩ := HC.out wr B2.out (by omega)
        have ea : a = some ⟨b0, o0, none⟩ := by cases e; rfl
        have z0 := hc k hlt
        have VOk := Lib.hid (VO.out k)
        have LEk := Lib.hid (LE.out k)
        have QZ := Lib.hid (show ys.length ≤ 1048576 by rw [len_of_map HM.out, LN.out]; omega)
        skip
        clear e hc
        subst ea
        have Z3 := Lib.hid (fun w1 (hb : Below w.heap.size w w1) => (show w1.cell? ⟨b0, o0 + k, none⟩ = some (.float .f32 (zs.getD k 0)) from by obtain ⟨b9, o9, c9, e9, hc9⟩ := HC.out w1 hb (by omega); cases e9; exact hc9 k hlt))
        have hi : (0 : Int) ≤ (k : Int) := by omega
        have hi' : (k : Int) < (n : Int) := by omega
        generalize zs.getD k 0 = x at *
        skip
        go_wp2_with (refine wpList_farith rfl _ _ _ _ _ rfl rfl _ _ _ rfl rfl ?_; intro r0 j0 g0; have f0 := Lib.hid g0; clear g0; refine Stop.go ?_)
        refine Stop.mk ?_
        go_wp2_with (refine wpList_farith rfl _ _ _ _ _ rfl rfl _ _ _ rfl rfl ?_; intro r1 j1 g1; have f1 := Lib.hid g1; clear g1; refine Stop.go ?_)
        refine Stop.mk ?_
        go_wp2_with (refine wpList_farith rfl _ _ _ _ _ rfl rfl _ _ _ rfl rfl ?_; intro r2 j2 g2; have f2 := Lib.hid g2; clear g2; refine Stop.go ?_)
        refine Stop.mk ?_
        have NV := Lib.hid (VOk.out s0 kv r0 r1 r2 HV.out K.out f0.out f1.out f2.out)
        clear f0 f1 f2
        go_wp2_with (at_builtin; refine wpList_app32 rfl _ _ rfl w.heap.size _ ys rfl ((O2.out.drewN _).al _) _ r2 _ rfl ((World.cell?_alloc_at _ _ _ _ (by simp)).trans rfl) QZ.out (by have := hs2.out; simp; omega) ?_; intro v' w3 hown' hb; have O3 := Lib.hid hown'; have B3 := Lib.hid (((below_drewN B2.out _).alloc (by have := hs2.out; simp; omega) _).trans hb); have z3 := Z3.out w3 B3.out; clear hown' hb)
        go_roundw
        case rel => exact ⟨k + 1, by omega, by go_num, ⟨r2, rfl, NV⟩, Lib.hid ⟨ys ++ [r2], O3.out, by rw [LEk.out]; exact map_snoc HM.out NV.out⟩, B3⟩
        case measure => simp [intOf]; omega
      · obtain rfl : k = n := by omega
        have QZ := Lib.hid (show ys.length ≤ 1048576 by rw [len_of_map HM.out, LN.out]; omega)
        have FR := Lib.hid (O2.out.row QZ.out)
        clear VO LE LN V0 L0
        obtain ⟨a1, c1, e1⟩ := FR.out.shape
        subst e1
        cases A : ys.all (fin .f32)
        · have HA := Lib.hid A
          have E := Lib.hid (FI.out ys)
          clear A
          go_wp2_with fail
          refine (ifAll_false _ ys _ FR.out HA.out).mono ?_
          rintro e w5 ⟨rfl, hb⟩
          have B2 := Lib.hid (below_step B2.out hb)
          have O2 := Lib.hid (O2.out.kept hb)
          clear hb
          go_wp2
          go_ret2
          exact E.out _ HM.out HA.out (by first | exact B2.out | exact below_drewN B2.out _)
        · have HA := Lib.hid A
          have E := Lib.hid (FYe.out (.slice a1 ys.length c1) ys)
          clear A
          go_wp2_with fail
          refine (ifAll_true _ ys _ FR.out HA.out).mono ?_
          rintro e w5 ⟨rfl, hb⟩
          have B2 := Lib.hid (below_step B2.out hb)
          have O2 := Lib.hid (O2.out.kept hb)
          clear hb
          go_wp2
          go_ret2
          exact E.out _ HM.out HA.out (by first | exact O2.out | exact O2.out.drewN _) (by first | exact B2.out | exact below_drewN B2.out _)

set_option maxRecDepth 20000 in
set_option maxHeartbeats 3200000 in
theorem fnExactSlowReads_walk (v : Value) (zs : List Nat) (f : Nat) (t : Nat) (u : Nat) (w : World) (h : FRow w v zs) (_ : (Lit.float .f32 f).wf = true) (_ : (Lit.float .f32 t).wf = true) (_ : (Lit.float .f32 u).wf = true) : Calls Try.prog 3 #[v, .float .f32 f, .float .f32 t, .float .f32 u] w (Tru w) := by
  obtain ⟨c, hs, hi⟩ : ∃ c, (pos t = true → pos u = true → ∀ w, Calls Try.prog 59 #[.float .f32 (snA t u)] w (ExV c w)) ∧ (pos t = true → pos u = true → ∀ w, Calls Try.prog 64 #[.float .f32 (snA t u)] w (ExV c w)) := by
    by_cases g : pos t = true ∧ pos u = true
    · obtain ⟨c, hc⟩ := exps_agree (snA t u) (Nng_neg (sn_Nng g.1 g.2))
      exact ⟨c, fun _ _ w => (hc w).1, fun _ _ w => (hc w).2⟩
    · exact ⟨0, fun h1 h2 => absurd ⟨h1, h2⟩ g, fun h1 h2 => absurd ⟨h1, h2⟩ g⟩
  have HSP := Lib.hid hs
  have HIP := Lib.hid hi
  clear hs hi
  have CS := Lib.hid (fun v w1 (hr : FRow w1 v zs) => specSl_any f t u c v zs w1 hr HSP.out)
  have CI := Lib.hid (fun v w1 (hr : FRow w1 v zs) => implSl_any f t u c v zs w1 hr HIP.out)
  have HS := Lib.hid (Sl_len zs f t u c)
  generalize lstS (snB zs f t u) (slL zs (snK c) f zs.length) = S at *
  generalize lstG (snB zs f t u) (slL zs (snK c) f zs.length) = bb at *
  have HL := Lib.hid h.len
  by_cases hl : zs.length ≤ 1048576
  · have HN := Lib.hid hl
    have A := Lib.hid h
    obtain ⟨a, cap, rfl⟩ := h.shape
    clear h
    have SL : Hid (∀ ys : List Nat, ys.map (cn .f32) = S → ys.length ≤ 400) := Lib.hid (fun ys hm => by rw [len_of_map hm]; exact HS.out)
    have SM : Hid (∀ n : Nat, n ≤ 400 → n ≤ maxLen) := Lib.hid (fun n hn => Nat.le_trans hn (by decide))
    have EQ := Lib.hid (fun v v1 zs ys w1 (h : FRow w1 v zs) (h1 : FRow w1 v1 ys) (hs : SameList zs ys) => (show Calls Try.prog 16 #[v, v1] w1 (fun e w2 => e = .returned (.bool true) ∧ Below w1.heap.size w1 w2) from (eqF_any v v1 zs ys w1 h h1 hs).mono (fun _ _ ⟨he, n, hw⟩ => ⟨he, by rw [hw]; exact below_drewN (Below.refl _ _) n⟩)))
    have Bw := Lib.hid (Below.refl w.heap.size w)
    go_enter Try.func3, Try.ntmps3
    go_wp2_with fail
    refine (toF_new _ zs _ A.out HN.out).mono ?_
    rintro _ w1 ⟨rfl, hr, hb, _⟩
    have X := Lib.hid hr
    clear hr
    have Bw := Lib.hid (below_step Bw.out hb)
    have A := Lib.hid (A.out.below hb)
    clear hb
    go_wp2_with fail
    refine (CS.out _ _ X.out).mono ?_
    rintro _ w2 ⟨y, ys, rfl, hO, hm, hb⟩
    have Y := Lib.hid (hO.frow (SM.out _ (SL.out _ hm)))
    have YM := Lib.hid hm
    clear hO hm X
    have Bw := Lib.hid (below_step Bw.out hb)
    have A := Lib.hid (A.out.below hb)
    clear hb
    have B3 := Lib.hid (Below.refl w2.heap.size w2)
    have RV := Lib.hid A.out
    clear A
    go_wp2_with fail
    refine (toF_new _ zs _ (RV.out.below B3.out) HN.out).mono ?_
    rintro _ w3 ⟨rfl, hr, hb, hcl⟩
    have X := Lib.hid hr
    have XC := Lib.hid hcl
    clear hr hcl
    have B3 := Lib.hid (below_step B3.out hb)
    clear hb
    have XL := Lib.hid XC.out.lt
    have B5 := Lib.hid B3.out.size
    go_wp2_with fail
    refine (CI.out _ _ X.out).mono ?_
    rintro _ w4 ⟨g, gs, rfl, hO, hm, hb⟩
    have O := Lib.hid hO
    have GM := Lib.hid hm
    have GL := Lib.hid (SL.out _ hm)
    have H6 := Lib.hid hb.size
    clear hO hm
    have B3 := Lib.hid (below_step B3.out hb)
    have X := Lib.hid (X.out.below hb)
    have XC := Lib.hid (XC.out.kept hb)
    clear hb
    go_wp2_with fail
    refine (EQ.out _ _ gs ys _ (O.out.frow (SM.out _ GL.out)) (Y.out.below B3.out) (same_of_map GM.out YM.out)).mono ?_
    rintro _ w5 ⟨rfl, hb⟩
    have H6 := Lib.hid (Nat.le_trans H6.out hb.size)
    have B3 := Lib.hid (below_step B3.out hb)
    have X := Lib.hid (X.out.below hb)
    have XC := Lib.hid (XC.out.kept hb)
    have O := Lib.hid (O.out.kept hb)
    clear hb
    go_wp2_with fail
    refine (toF_new _ zs _ (RV.out.below B3.out) HN.out).mono ?_
    rintro _ w6 ⟨rfl, hr, hb, _⟩
    have Z := Lib.hid hr
    clear hr
    have H6 := Lib.hid (Nat.le_trans H6.out hb.size)
    have B3 := Lib.hid (below_step B3.out hb)
    have X := Lib.hid (X.out.below hb)
    have XC := Lib.hid (XC.out.kept hb)
    have O := Lib.hid (O.out.kept hb)
    clear hb
    go_wp2_with fail
    refine (EQ.out _ _ zs zs _ X.out Z.out (SameList.refl _)).mono ?_
    rintro _ w7 ⟨rfl, hb⟩
    clear Z X
    have H6 := Lib.hid (Nat.le_trans H6.out hb.size)
    have B3 := Lib.hid (below_step B3.out hb)
    have XC := Lib.hid (XC.out.kept hb)
    have O := Lib.hid (O.out.kept hb)
    clear hb
    go_wp2_with fail
    refine (markX _ zs _ XC.out HN.out).mono ?_
    rintro _ w8 ⟨rfl, hon⟩
    have B3 := Lib.hid (B3.out.trans (hon.below (Nat.le_refl _)))
    have O := Lib.hid (O.out.far hon XL.out)
    have H6 := Lib.hid (Nat.le_trans H6.out (hon.below (Nat.zero_le _)).size)
    clear hon XC
    go_wp2_with fail
    refine (EQ.out _ _ gs ys _ (O.out.frow (SM.out _ GL.out)) (Y.out.below B3.out) (same_of_map GM.out YM.out)).mono ?_
    rintro _ w9 ⟨rfl, hb⟩
    have H6 := Lib.hid (Nat.le_trans H6.out hb.size)
    have B3 := Lib.hid (below_step B3.out hb)
    have O := Lib.hid (O.out.kept hb)
    clear hb
    go_wp2_with fail
    refine (markO O.out GL.out).mono ?_
    rintro _ w10 ⟨rfl, hO, hm⟩
    have hb := hm H6.out
    have H6 := Lib.hid (Nat.le_trans H6.out hb.size)
    have B3 := Lib.hid (B3.out.trans (hb.mono B5.out))
    have O := Lib.hid hO
    clear hO hm hb
    go_wp2_with fail
    refine (heldO O.out GL.out).mono ?_
    rintro _ w11 ⟨rfl, rfl⟩
    go_wp2_with fail
    refine (toF_new _ zs _ (RV.out.below B3.out) HN.out).mono ?_
    rintro _ w12 ⟨rfl, hr, hb, _⟩
    have Z := Lib.hid hr
    clear hr
    have B3 := Lib.hid (below_step B3.out hb)
    have O := Lib.hid (O.out.kept hb)
    clear hb
    go_wp2_with fail
    refine (CI.out _ _ Z.out).mono ?_
    rintro _ w13 ⟨f, fs, rfl, hO, hm, hb⟩
    have FR := Lib.hid (hO.frow (SM.out _ (SL.out _ hm)))
    have FM := Lib.hid hm
    clear hO hm Z
    have B3 := Lib.hid (below_step B3.out hb)
    have O := Lib.hid (O.out.kept hb)
    clear hb
    go_wp2_with fail
    refine (EQ.out _ _ fs ys _ FR.out (Y.out.below B3.out) (same_of_map FM.out YM.out)).mono ?_
    rintro _ w14 ⟨rfl, hb⟩
    have B3 := Lib.hid (below_step B3.out hb)
    have O := Lib.hid (O.out.kept hb)
    clear hb
    go_wp2_with fail
    refine (heldO O.out GL.out).mono ?_
    rintro _ w15 ⟨rfl, rfl⟩
    go_wp2
    go_ret
    exact Tru.below (below_step Bw.out B3.out)
  · obtain ⟨a, cap, rfl⟩ := h.shape
    clear h
    have gL := HL.out
    go_enter Try.func3, Try.ntmps3
    go_wp2
    go_ret
    exact Tru.same


def qkB (zs : List Nat) (f t u c : Nat) : Bool := snB zs f t u && gt0 (snK c)
theorem Qk_len (zs : List Nat) (f t u c : Nat) : (lstS (qkB zs f t u c) (qkL zs (snK c) f zs.length)).length ≤ 400 := by
  cases h : qkB zs f t u c
  · unfold lstS; simp
  · have h1 : rds zs = true := by
      unfold qkB at h; rw [Bool.and_eq_true] at h; exact (sn_parts h.1).1
    exact lstS_le (by rw [qkL_len]; have := (rds_len h1).2; omega)

set_option maxRecDepth 20000 in
set_option maxHeartbeats 3200000 in
theorem specQk_any (f t u c : Nat) (v : Value) (zs : List Nat) (w : World) (h : FRow w v zs) (hc : pos t = true → pos u = true → ∀ w, Calls Try.prog 59 #[.float .f32 (snA t u)] w (ExV c w)) : Calls Try.prog 19 #[v, .float .f32 f, .float .f32 t, .float .f32 u] w (LstO (lstS (qkB zs f t u c) (qkL zs (snK c) f zs.length)) (lstG (qkB zs f t u c) (qkL zs (snK c) f zs.length)) w) := by
  have Bw := Lib.hid (Below.refl w.heap.size w)
  have Bp := Lib.hid Bw.out
  have HG := Lib.hid (fun w1 (hb : Below w.heap.size w w1) => specSn_any v zs f t u w1 (h.below hb))
  have HK := Lib.hid (fun (e : snB zs f t u = true) w1 => specKn_any t u c w1 (sn_parts e).2.1 (sn_parts e).2.2 (hc (sn_parts e).2.1 (sn_parts e).2.2))
  have HC := Lib.hid (fun w1 (hb : Below w.heap.size w w1) (hn : 1 ≤ zs.length) => (h.below hb).cells hn)
  have HL := Lib.hid h.len
  have FN := Lib.hid (fun (e : qkB zs f t u c = false) w1 (hb : Below w.heap.size w w1) => sl_bad (S := (qkL zs (snK c) f zs.length)) e hb)
  have FI := Lib.hid (fun ys w1 hm h (hb : Below w.heap.size w w1) => @sl_inf (qkB zs f t u c) ys (qkL zs (snK c) f zs.length) w w1 hm h hb)
  have FY := Lib.hid (fun (e : qkB zs f t u c = true) v ys w1 hm h ho (hb : Below w.heap.size w w1) => @sl_yes (qkB zs f t u c) v ys (qkL zs (snK c) f zs.length) w w1 e hm h ho hb)
  have HZ := Lib.hid (fun (e : snB zs f t u = true) => (rds_len (sn_parts e).1).2)
  have LE := Lib.hid (fun i => show qkL zs (snK c) f (i + 1) = qkL zs (snK c) f i ++ [qkV zs (snK c) f i] from rfl)
  have LN := Lib.hid (fun i => qkL_len zs (snK c) f i)
  have L0 := Lib.hid (show qkL zs (snK c) f 0 = [] from rfl)
  have VO := Lib.hid (fun i kv r0 r1 r2 hk f0 f1 f2 => @qkV_of zs (snK c) f i kv r0 r1 r2 hk f0 f1 f2)
  have V0 := Lib.hid (show qkS zs f 0 = f from rfl)
  have V1 := Lib.hid (fun i => show qkS zs f (i + 1) = zs.getD i 0 from rfl)
  have GT := Lib.hid (fun r (h : cn .f32 r = snK c) => gt0_of h)
  have HT := Lib.hid (fun w1 => specKn_tot t u w1)
  have OK := Lib.hid (show qkB zs f t u c = (snB zs f t u && gt0 (snK c)) from rfl)
  obtain ⟨a, cap, rfl⟩ := h.shape
  clear h hc
  generalize lstS (qkB zs f t u c) (qkL zs (snK c) f zs.length) = S at *
  generalize lstG (qkB zs f t u c) (qkL zs (snK c) f zs.length) = O at *
  cases B0 : snB zs f t u
  · skip
    have E := Lib.hid (FN.out (OK.out.trans (by rw [B0]; rfl)))
    have HS := Lib.hid B0
    clear B0 FN FI FY HZ HK
    go_enter Try.func19, Try.ntmps19
    go_wp2_with fail
    refine (HT.out _).mono ?_
    rintro e w' ⟨kv, nk, rfl, rfl⟩
    go_wp2_with fail
    refine (HG.out _ (by repeat (first | (with_reducible exact Bw.out) | (with_reducible exact Bp.out) | (with_reducible refine below_drewN ?_ _) | (with_reducible exact Below.refl _ _)))).mono ?_
    rw [HS.out]
    rintro e wg ⟨rfl, hb⟩
    have Bw := Lib.hid (((by repeat (first | (with_reducible exact Bw.out) | (with_reducible exact Bp.out) | (with_reducible refine below_drewN ?_ _) | (with_reducible exact Below.refl _ _))) : Below w.heap.size w _).trans (hb.mono ((by repeat (first | (with_reducible exact Bw.out) | (with_reducible exact Bp.out) | (with_reducible refine below_drewN ?_ _) | (with_reducible exact Below.refl _ _))) : Below w.heap.size w _).size))
    have Bp := Lib.hid Bw.out
    clear hb
    go_wp2
    go_ret2
    exact E.out _ (by repeat (first | (with_reducible exact Bw.out) | (with_reducible exact Bp.out) | (with_reducible refine below_drewN ?_ _) | (with_reducible exact Below.refl _ _)))
  · have HS := Lib.hid B0
    have HK := Lib.hid (HK.out B0)
    have hz := HZ.out B0
    cases B1 : gt0 (snK c)
    · skip
      have E := Lib.hid (FN.out (OK.out.trans (by rw [B1]; simp)))
      have H1 := Lib.hid B1
      clear B0 B1 FN FI FY HZ OK
      go_enter Try.func19, Try.ntmps19
      go_wp2_with fail
      refine (HK.out _).mono ?_
      rintro e w' ⟨kv, nk, hk, rfl, rfl⟩
      have K := Lib.hid hk
      clear hk
      have og : (FloatKind.f32.format.order kv 0 == some .gt) = false := (GT.out kv K.out).trans H1.out
      go_wp2_with fail
      refine (HG.out _ (by repeat (first | (with_reducible exact Bw.out) | (with_reducible exact Bp.out) | (with_reducible refine below_drewN ?_ _) | (with_reducible exact Below.refl _ _)))).mono ?_
      rw [HS.out]
      rintro e wg ⟨rfl, hb⟩
      have Bw := Lib.hid (((by repeat (first | (with_reducible exact Bw.out) | (with_reducible exact Bp.out) | (with_reducible refine below_drewN ?_ _) | (with_reducible exact Below.refl _ _))) : Below w.heap.size w _).trans (hb.mono ((by repeat (first | (with_reducible exact Bw.out) | (with_reducible exact Bp.out) | (with_reducible refine below_drewN ?_ _) | (with_reducible exact Below.refl _ _))) : Below w.heap.size w _).size))
      have Bp := Lib.hid Bw.out
      clear hb
      go_wp2
      go_ret2
      exact E.out _ (by repeat (first | (with_reducible exact Bw.out) | (with_reducible exact Bp.out) | (with_reducible refine below_drewN ?_ _) | (with_reducible exact Below.refl _ _)))
    · skip
      have FYe := Lib.hid (FY.out (OK.out.trans (by rw [B0, B1]; rfl)))
      have H1 := Lib.hid B1
      clear B0 B1 FN FY HZ OK
      generalize hnn : zs.length = n at *
      clear hnn
      go_enter Try.func19, Try.ntmps19
      go_wp2_with fail
      refine (HK.out _).mono ?_
      rintro e w' ⟨kv, nk, hk, rfl, rfl⟩
      have K := Lib.hid hk
      clear hk
      have og : (FloatKind.f32.format.order kv 0 == some .gt) = true := (GT.out kv K.out).trans H1.out
      go_wp2_with fail
      refine (HG.out _ (by repeat (first | (with_reducible exact Bw.out) | (with_reducible exact Bp.out) | (with_reducible refine below_drewN ?_ _) | (with_reducible exact Below.refl _ _)))).mono ?_
      rw [HS.out]
      rintro e wg ⟨rfl, hb⟩
      have Bw := Lib.hid (((by repeat (first | (with_reducible exact Bw.out) | (with_reducible exact Bp.out) | (with_reducible refine below_drewN ?_ _) | (with_reducible exact Below.refl _ _))) : Below w.heap.size w _).trans (hb.mono ((by repeat (first | (with_reducible exact Bw.out) | (with_reducible exact Bp.out) | (with_reducible refine below_drewN ?_ _) | (with_reducible exact Below.refl _ _))) : Below w.heap.size w _).size))
      have Bp := Lib.hid Bw.out
      clear hb
      generalize hkk : snK c = kc at *
      clear hkk
      go_wp2
      go_loopw [11, 12, 13, 32] (fun q s _ i wr => ∃ k : Nat, k ≤ n ∧ i = .int .i64 k ∧ (s = .float .f32 (qkS zs f k)) ∧ Hid (∃ ys : List Nat, Own wr w.heap.size q ys ∧ ys.map (cn .f32) = qkL zs kc f k) ∧ Hid (Below w.heap.size w wr)) (fun _ _ _ i _ => n - (intOf i).toNat)
      case atStart => exact ⟨0, Nat.zero_le _, rfl, by rw [V0.out], Lib.hid ⟨[], (by first | exact Own.nil _ _ | exact Own.empty _ _ ((by repeat (first | (with_reducible exact Bw.out) | (with_reducible exact Bp.out) | (with_reducible refine below_drewN ?_ _) | (with_reducible exact Below.refl _ _))) : Below w.heap.size w _).size), by rw [L0.out]; rfl⟩, Lib.hid (by repeat (first | (with_reducible exact Bw.out) | (with_reducible exact Bp.out) | (with_reducible refine below_drewN ?_ _) | (refine Below.alloc ?_ (by first | exact Bp.out.size | exact Bw.out.size) _)))⟩
      case round =>
        obtain ⟨k, hk, rfl, HS1, HO, B2⟩ := hrel
        have hs2 := Lib.hid B2.out.size
        have gL := HL.out
        subst HS1
        obtain ⟨ys, O2, HM⟩ := HO.out
        have O2 := Lib.hid O2
        have HM := Lib.hid HM
        clear HO
        by_cases hlt : k < n
        · obtain ⟨b0, o0, c0, e, hc⟩ := HC.out wr B2.out (by omega)
          have ea : a = some ⟨b0, o0, none⟩ := by cases e; rfl
          have z0 := hc k hlt
          have VOk := Lib.hid (VO.out k)
          have LEk := Lib.hid (LE.out k)
          have QZ := Lib.hid (show ys.length ≤ 1048576 by rw [len_of_map HM.out, LN.out]; omega)
          have V1k := Lib.hid (V1.out k)
          clear e hc
          subst ea
          have Z3 := Lib.hid (fun w1 (hb : Below w.heap.size w w1) => (show w1.cell? ⟨b0, o0 + k, none⟩ = some (.float .f32 (zs.getD k 0)) from by obtain ⟨b9, o9, c9, e9, hc9⟩ := HC.out w1 hb (by omega); cases e9; exact hc9 k hlt))
          have hi : (0 : Int) ≤ (k : Int) := by omega
          have hi' : (k : Int) < (n : Int) := by omega
          generalize zs.getD k 0 = x at *
          generalize qkS zs f k = s0 at *
          go_wp2_with (refine wpList_farith rfl _ _ _ _ _ rfl rfl _ _ _ rfl rfl ?_; intro r0 j0 g0; have f0 := Lib.hid g0; clear g0; refine Stop.go ?_)
          refine Stop.mk ?_
          go_wp2_with (refine wpList_farith rfl _ _ _ _ _ rfl rfl _ _ _ rfl rfl ?_; intro r1 j1 g1; have f1 := Lib.hid g1; clear g1; refine Stop.go ?_)
          refine Stop.mk ?_
          go_wp2_with (refine wpList_farith rfl _ _ _ _ _ rfl rfl _ _ _ rfl rfl ?_; intro r2 j2 g2; have f2 := Lib.hid g2; clear g2; refine Stop.go ?_)
          refine Stop.mk ?_
          have NV := Lib.hid (VOk.out kv r0 r1 r2 K.out f0.out f1.out f2.out)
          clear f0 f1 f2
          go_wp2_with (at_builtin; refine wpList_app32 rfl _ _ rfl w.heap.size _ ys rfl ((O2.out.drewN _).al _) _ r2 _ rfl ((World.cell?_alloc_at _ _ _ _ (by simp)).trans rfl) QZ.out (by have := hs2.out; simp; omega) ?_; intro v' w3 hown' hb; have O3 := Lib.hid hown'; have B3 := Lib.hid (((below_drewN B2.out _).alloc (by have := hs2.out; simp; omega) _).trans hb); have z3 := Z3.out w3 B3.out; clear hown' hb)
          go_roundw
          case rel => exact ⟨k + 1, by omega, by go_num, by rw [V1k.out], Lib.hid ⟨ys ++ [r2], O3.out, by rw [LEk.out]; exact map_snoc HM.out NV.out⟩, B3⟩
          case measure => simp [intOf]; omega
        · obtain rfl : k = n := by omega
          have QZ := Lib.hid (show ys.length ≤ 1048576 by rw [len_of_map HM.out, LN.out]; omega)
          have FR := Lib.hid (O2.out.row QZ.out)
          clear VO LE LN V0 L0
          obtain ⟨a1, c1, e1⟩ := FR.out.shape
          subst e1
          cases A : ys.all (fin .f32)
          · have HA := Lib.hid A
            have E := Lib.hid (FI.out ys)
            clear A
            go_wp2_with fail
            refine (specFinL_any _ ys _ FR.out).mono ?_
            rw [HA.out]
            rintro e w' ⟨rfl, nq, rfl⟩
            go_wp2
            go_ret2
            exact E.out _ HM.out HA.out (by first | exact B2.out | exact below_drewN B2.out _)
          · have HA := Lib.hid A
            have E := Lib.hid (FYe.out (.slice a1 ys.length c1) ys)
            clear A
            go_wp2_with fail
            refine (specFinL_any _ ys _ FR.out).mono ?_
            rw [HA.out]
            rintro e w' ⟨rfl, nq, rfl⟩
            go_wp2
            go_ret2
            exact E.out _ HM.out HA.out (by first | exact O2.out | exact O2.out.drewN _) (by first | exact B2.out | exact below_drewN B2.out _)
set_option maxRecDepth 20000 in
set_option maxHeartbeats 3200000 in
theorem implQk_any (f t u c : Nat) (v : Value) (zs : List Nat) (w : World) (h : FRow w v zs) (hc : pos t = true → pos u = true → ∀ w, Calls Try.prog 64 #[.float .f32 (snA t u)] w (ExV c w)) : Calls Try.prog 20 #[v, .float .f32 f, .float .f32 t, .float .f32 u] w (LstO (lstS (qkB zs f t u c) (qkL zs (snK c) f zs.length)) (lstG (qkB zs f t u c) (qkL zs (snK c) f zs.length)) w) := by
  have Bw := Lib.hid (Below.refl w.heap.size w)
  have Bp := Lib.hid Bw.out
  have HG := Lib.hid (fun w1 (hb : Below w.heap.size w w1) => implSn_any v zs f t u w1 (h.below hb))
  have HK := Lib.hid (fun (e : snB zs f t u = true) w1 => implKn_any t u c w1 (sn_parts e).2.1 (sn_parts e).2.2 (hc (sn_parts e).2.1 (sn_parts e).2.2))
  have HC := Lib.hid (fun w1 (hb : Below w.heap.size w w1) (hn : 1 ≤ zs.length) => (h.below hb).cells hn)
  have HL := Lib.hid h.len
  have FN := Lib.hid (fun (e : qkB zs f t u c = false) w1 (hb : Below w.heap.size w w1) => sl_bad (S := (qkL zs (snK c) f zs.length)) e hb)
  have FI := Lib.hid (fun ys w1 hm h (hb : Below w.heap.size w w1) => @sl_inf (qkB zs f t u c) ys (qkL zs (snK c) f zs.length) w w1 hm h hb)
  have FY := Lib.hid (fun (e : qkB zs f t u c = true) v ys w1 hm h ho (hb : Below w.heap.size w w1) => @sl_yes (qkB zs f t u c) v ys (qkL zs (snK c) f zs.length) w w1 e hm h ho hb)
  have HZ := Lib.hid (fun (e : snB zs f t u = true) => (rds_len (sn_parts e).1).2)
  have LE := Lib.hid (fun i => show qkL zs (snK c) f (i + 1) = qkL zs (snK c) f i ++ [qkV zs (snK c) f i] from rfl)
  have LN := Lib.hid (fun i => qkL_len zs (snK c) f i)
  have L0 := Lib.hid (show qkL zs (snK c) f 0 = [] from rfl)
  have VO := Lib.hid (fun i kv r0 r1 r2 hk f0 f1 f2 => @qkV_of zs (snK c) f i kv r0 r1 r2 hk f0 f1 f2)
  have V0 := Lib.hid (show qkS zs f 0 = f from rfl)
  have V1 := Lib.hid (fun i => show qkS zs f (i + 1) = zs.getD i 0 from rfl)
  have GT := Lib.hid (fun r (h : cn .f32 r = snK c) => gt0_of h)
  have HT := Lib.hid (fun w1 => implKn_tot t u w1)
  have OK := Lib.hid (show qkB zs f t u c = (snB zs f t u && gt0 (snK c)) from rfl)
  obtain ⟨a, cap, rfl⟩ := h.shape
  clear h hc
  generalize lstS (qkB zs f t u c) (qkL zs (snK c) f zs.length) = S at *
  generalize lstG (qkB zs f t u c) (qkL zs (snK c) f zs.length) = O at *
  cases B0 : snB zs f t u
  · skip
    have E := Lib.hid (FN.out (OK.out.trans (by rw [B0]; rfl)))
    have HS := Lib.hid B0
    clear B0 FN FI FY HZ HK
    go_enter Try.func20, Try.ntmps20
    go_wp2_with fail
    refine (HT.out _).mono ?_
    rintro e w' ⟨kv, nk, rfl, rfl⟩
    go_wp2_with fail
    refine (HG.out _ (by repeat (first | (with_reducible exact Bw.out) | (with_reducible exact Bp.out) | (with_reducible refine below_drewN ?_ _) | (with_reducible exact Below.refl _ _)))).mono ?_
    rw [HS.out]
    rintro e wg ⟨rfl, hb⟩
    have Bw := Lib.hid (((by repeat (first | (with_reducible exact Bw.out) | (with_reducible exact Bp.out) | (with_reducible refine below_drewN ?_ _) | (with_reducible exact Below.refl _ _))) : Below w.heap.size w _).trans (hb.mono ((by repeat (first | (with_reducible exact Bw.out) | (with_reducible exact Bp.out) | (with_reducible refine below_drewN ?_ _) | (with_reducible exact Below.refl _ _))) : Below w.heap.size w _).size))
    have Bp := Lib.hid Bw.out
    clear hb
    go_wp2
    go_ret2
    exact E.out _ (by repeat (first | (with_reducible exact Bw.out) | (with_reducible exact Bp.out) | (with_reducible refine below_drewN ?_ _) | (with_reducible exact Below.refl _ _)))
  · have HS := Lib.hid B0
    have HK := Lib.hid (HK.out B0)
    have hz := HZ.out B0
    cases B1 : gt0 (snK c)
    · skip
      have E := Lib.hid (FN.out (OK.out.trans (by rw [B1]; simp)))
      have H1 := Lib.hid B1
      clear B0 B1 FN FI FY HZ OK
      go_enter Try.func20, Try.ntmps20
      go_wp2_with fail
      refine (HK.out _).mono ?_
      rintro e w' ⟨kv, nk, hk, rfl, rfl⟩
      have K := Lib.hid hk
      clear hk
      have og : (FloatKind.f32.format.order kv 0 == some .gt) = false := (GT.out kv K.out).trans H1.out
      go_wp2_with fail
      refine (HG.out _ (by repeat (first | (with_reducible exact Bw.out) | (with_reducible exact Bp.out) | (with_reducible refine below_drewN ?_ _) | (with_reducible exact Below.refl _ _)))).mono ?_
      rw [HS.out]
      rintro e wg ⟨rfl, hb⟩
      have Bw := Lib.hid (((by repeat (first | (with_reducible exact Bw.out) | (with_reducible exact Bp.out) | (with_reducible refine below_drewN ?_ _) | (with_reducible exact Below.refl _ _))) : Below w.heap.size w _).trans (hb.mono ((by repeat (first | (with_reducible exact Bw.out) | (with_reducible exact Bp.out) | (with_reducible refine below_drewN ?_ _) | (with_reducible exact Below.refl _ _))) : Below w.heap.size w _).size))
      have Bp := Lib.hid Bw.out
      clear hb
      go_wp2
      go_ret2
      exact E.out _ (by repeat (first | (with_reducible exact Bw.out) | (with_reducible exact Bp.out) | (with_reducible refine below_drewN ?_ _) | (with_reducible exact Below.refl _ _)))
    · skip
      have FYe := Lib.hid (FY.out (OK.out.trans (by rw [B0, B1]; rfl)))
      have H1 := Lib.hid B1
      clear B0 B1 FN FY HZ OK
      generalize hnn : zs.length = n at *
      clear hnn
      go_enter Try.func20, Try.ntmps20
      go_wp2_with fail
      refine (HK.out _).mono ?_
      rintro e w' ⟨kv, nk, hk, rfl, rfl⟩
      have K := Lib.hid hk
      clear hk
      have og : (FloatKind.f32.format.order kv 0 == some .gt) = true := (GT.out kv K.out).trans H1.out
      go_wp2_with fail
      refine (HG.out _ (by repeat (first | (with_reducible exact Bw.out) | (with_reducible exact Bp.out) | (with_reducible refine below_drewN ?_ _) | (with_reducible exact Below.refl _ _)))).mono ?_
      rw [HS.out]
      rintro e wg ⟨rfl, hb⟩
      have Bw := Lib.hid (((by repeat (first | (with_reducible exact Bw.out) | (with_reducible exact Bp.out) | (with_reducible refine below_drewN ?_ _) | (with_reducible exact Below.refl _ _))) : Below w.heap.size w _).trans (hb.mono ((by repeat (first | (with_reducible exact Bw.out) | (with_reducible exact Bp.out) | (with_reducible refine below_drewN ?_ _) | (with_reducible exact Below.refl _ _))) : Below w.heap.size w _).size))
      have Bp := Lib.hid Bw.out
      clear hb
      generalize hkk : snK c = kc at *
      clear hkk
      go_wp2
      go_loopw [11, 12, 14, 32] (fun s q _ i wr => ∃ k : Nat, k ≤ n ∧ i = .int .i64 k ∧ (s = .float .f32 (qkS zs f k)) ∧ Hid (∃ ys : List Nat, Own wr w.heap.size q ys ∧ ys.map (cn .f32) = qkL zs kc f k) ∧ Hid (Below w.heap.size w wr)) (fun _ _ _ i _ => n - (intOf i).toNat)
      case atStart => exact ⟨0, Nat.zero_le _, rfl, by rw [V0.out], Lib.hid ⟨[], (by first | exact Own.nil _ _ | exact Own.empty _ _ ((by repeat (first | (with_reducible exact Bw.out) | (with_reducible exact Bp.out) | (with_reducible refine below_drewN ?_ _) | (with_reducible exact Below.refl _ _))) : Below w.heap.size w _).size), by rw [L0.out]; rfl⟩, Lib.hid (by repeat (first | (with_reducible exact Bw.out) | (with_reducible exact Bp.out) | (with_reducible refine below_drewN ?_ _) | (with_reducible exact Below.refl _ _)))⟩
      case round =>
        obtain ⟨k, hk, rfl, HS1, HO, B2⟩ := hrel
        have hs2 := Lib.hid B2.out.size
        have gL := HL.out
        subst HS1
        obtain ⟨ys, O2, HM⟩ := HO.out
        have O2 := Lib.hid O2
        have HM := Lib.hid HM
        clear HO
        by_cases hlt : k < n
        · obtain ⟨b0, o0, c0, e, hc⟩ := HC.out wr B2.out (by omega)
          have ea : a = some ⟨b0, o0, none⟩ := by cases e; rfl
          have z0 := hc k hlt
          have VOk := Lib.hid (VO.out k)
          have LEk := Lib.hid (LE.out k)
          have QZ := Lib.hid (show ys.length ≤ 1048576 by rw [len_of_map HM.out, LN.out]; omega)
          have V1k := Lib.hid (V1.out k)
          clear e hc
          subst ea
          have Z3 := Lib.hid (fun w1 (hb : Below w.heap.size w w1) => (show w1.cell? ⟨b0, o0 + k, none⟩ = some (.float .f32 (zs.getD k 0)) from by obtain ⟨b9, o9, c9, e9, hc9⟩ := HC.out w1 hb (by omega); cases e9; exact hc9 k hlt))
          have hi : (0 : Int) ≤ (k : Int) := by omega
          have hi' : (k : Int) < (n : Int) := by omega
          generalize zs.getD k 0 = x at *
          generalize qkS zs f k = s0 at *
          go_wp2_with (refine wpList_farith rfl _ _ _ _ _ rfl rfl _ _ _ rfl rfl ?_; intro r0 j0 g0; have f0 := Lib.hid g0; clear g0; refine Stop.go ?_)
          refine Stop.mk ?_
          go_wp2_with (refine wpList_farith rfl _ _ _ _ _ rfl rfl _ _ _ rfl rfl ?_; intro r1 j1 g1; have f1 := Lib.hid g1; clear g1; refine Stop.go ?_)
          refine Stop.mk ?_
          go_wp2_with (refine wpList_farith rfl _ _ _ _ _ rfl rfl _ _ _ rfl rfl ?_; intro r2 j2 g2; have f2 := Lib.hid g2; clear g2; refine Stop.go ?_)
          refine Stop.mk ?_
          have NV := Lib.hid (VOk.out kv r0 r1 r2 K.out f0.out f1.out f2.out)
          clear f0 f1 f2
          go_wp2_with (at_builtin; refine wpList_app32 rfl _ _ rfl w.heap.size _ ys rfl ((O2.out.drewN _).al _) _ r2 _ rfl ((World.cell?_alloc_at _ _ _ _ (by simp)).trans rfl) QZ.out (by have := hs2.out; simp; omega) ?_; intro v' w3 hown' hb; have O3 := Lib.hid hown'; have B3 := Lib.hid (((below_drewN B2.out _).alloc (by have := hs2.out; simp; omega) _).trans hb); have z3 := Z3.out w3 B3.out; clear hown' hb)
          go_roundw
          case rel => exact ⟨k + 1, by omega, by go_num, by rw [V1k.out], Lib.hid ⟨ys ++ [r2], O3.out, by rw [LEk.out]; exact map_snoc HM.out NV.out⟩, B3⟩
          case measure => simp [intOf]; omega
        · obtain rfl : k = n := by omega
          have QZ := Lib.hid (show ys.length ≤ 1048576 by rw [len_of_map HM.out, LN.out]; omega)
          have FR := Lib.hid (O2.out.row QZ.out)
          clear VO LE LN V0 L0
          obtain ⟨a1, c1, e1⟩ := FR.out.shape
          subst e1
          cases A : ys.all (fin .f32)
          · have HA := Lib.hid A
            have E := Lib.hid (FI.out ys)
            clear A
            go_wp2_with fail
            refine (ifAll_false _ ys _ FR.out HA.out).mono ?_
            rintro e w5 ⟨rfl, hb⟩
            have B2 := Lib.hid (below_step B2.out hb)
            have O2 := Lib.hid (O2.out.kept hb)
            clear hb
            go_wp2
            go_ret2
            exact E.out _ HM.out HA.out (by first | exact B2.out | exact below_drewN B2.out _)
          · have HA := Lib.hid A
            have E := Lib.hid (FYe.out (.slice a1 ys.length c1) ys)
            clear A
            go_wp2_with fail
            refine (ifAll_true _ ys _ FR.out HA.out).mono ?_
            rintro e w5 ⟨rfl, hb⟩
            have B2 := Lib.hid (below_step B2.out hb)
            have O2 := Lib.hid (O2.out.kept hb)
            clear hb
            go_wp2
            go_ret2
            exact E.out _ HM.out HA.out (by first | exact O2.out | exact O2.out.drewN _) (by first | exact B2.out | exact below_drewN B2.out _)

set_option maxRecDepth 20000 in
set_option maxHeartbeats 3200000 in
theorem fnExactQuickReads_walk (v : Value) (zs : List Nat) (f : Nat) (t : Nat) (u : Nat) (w : World) (h : FRow w v zs) (_ : (Lit.float .f32 f).wf = true) (_ : (Lit.float .f32 t).wf = true) (_ : (Lit.float .f32 u).wf = true) : Calls Try.prog 4 #[v, .float .f32 f, .float .f32 t, .float .f32 u] w (Tru w) := by
  obtain ⟨c, hs, hi⟩ : ∃ c, (pos t = true → pos u = true → ∀ w, Calls Try.prog 59 #[.float .f32 (snA t u)] w (ExV c w)) ∧ (pos t = true → pos u = true → ∀ w, Calls Try.prog 64 #[.float .f32 (snA t u)] w (ExV c w)) := by
    by_cases g : pos t = true ∧ pos u = true
    · obtain ⟨c, hc⟩ := exps_agree (snA t u) (Nng_neg (sn_Nng g.1 g.2))
      exact ⟨c, fun _ _ w => (hc w).1, fun _ _ w => (hc w).2⟩
    · exact ⟨0, fun h1 h2 => absurd ⟨h1, h2⟩ g, fun h1 h2 => absurd ⟨h1, h2⟩ g⟩
  have HSP := Lib.hid hs
  have HIP := Lib.hid hi
  clear hs hi
  have CS := Lib.hid (fun v w1 (hr : FRow w1 v zs) => specQk_any f t u c v zs w1 hr HSP.out)
  have CI := Lib.hid (fun v w1 (hr : FRow w1 v zs) => implQk_any f t u c v zs w1 hr HIP.out)
  have HS := Lib.hid (Qk_len zs f t u c)
  generalize lstS (qkB zs f t u c) (qkL zs (snK c) f zs.length) = S at *
  generalize lstG (qkB zs f t u c) (qkL zs (snK c) f zs.length) = bb at *
  have HL := Lib.hid h.len
  by_cases hl : zs.length ≤ 1048576
  · have HN := Lib.hid hl
    have A := Lib.hid h
    obtain ⟨a, cap, rfl⟩ := h.shape
    clear h
    have SL : Hid (∀ ys : List Nat, ys.map (cn .f32) = S → ys.length ≤ 400) := Lib.hid (fun ys hm => by rw [len_of_map hm]; exact HS.out)
    have SM : Hid (∀ n : Nat, n ≤ 400 → n ≤ maxLen) := Lib.hid (fun n hn => Nat.le_trans hn (by decide))
    have EQ := Lib.hid (fun v v1 zs ys w1 (h : FRow w1 v zs) (h1 : FRow w1 v1 ys) (hs : SameList zs ys) => (show Calls Try.prog 16 #[v, v1] w1 (fun e w2 => e = .returned (.bool true) ∧ Below w1.heap.size w1 w2) from (eqF_any v v1 zs ys w1 h h1 hs).mono (fun _ _ ⟨he, n, hw⟩ => ⟨he, by rw [hw]; exact below_drewN (Below.refl _ _) n⟩)))
    have Bw := Lib.hid (Below.refl w.heap.size w)
    go_enter Try.func4, Try.ntmps4
    go_wp2_with fail
    refine (toF_new _ zs _ A.out HN.out).mono ?_
    rintro _ w1 ⟨rfl, hr, hb, _⟩
    have X := Lib.hid hr
    clear hr
    have Bw := Lib.hid (below_step Bw.out hb)
    have A := Lib.hid (A.out.below hb)
    clear hb
    go_wp2_with fail
    refine (CS.out _ _ X.out).mono ?_
    rintro _ w2 ⟨y, ys, rfl, hO, hm, hb⟩
    have Y := Lib.hid (hO.frow (SM.out _ (SL.out _ hm)))
    have YM := Lib.hid hm
    clear hO hm X
    have Bw := Lib.hid (below_step Bw.out hb)
    have A := Lib.hid (A.out.below hb)
    clear hb
    have B3 := Lib.hid (Below.refl w2.heap.size w2)
    have RV := Lib.hid A.out
    clear A
    go_wp2_with fail
    refine (toF_new _ zs _ (RV.out.below B3.out) HN.out).mono ?_
    rintro _ w3 ⟨rfl, hr, hb, hcl⟩
    have X := Lib.hid hr
    have XC := Lib.hid hcl
    clear hr hcl
    have B3 := Lib.hid (below_step B3.out hb)
    clear hb
    have XL := Lib.hid XC.out.lt
    have B5 := Lib.hid B3.out.size
    go_wp2_with fail
    refine (CI.out _ _ X.out).mono ?_
    rintro _ w4 ⟨g, gs, rfl, hO, hm, hb⟩
    have O := Lib.hid hO
    have GM := Lib.hid hm
    have GL := Lib.hid (SL.out _ hm)
    have H6 := Lib.hid hb.size
    clear hO hm
    have B3 := Lib.hid (below_step B3.out hb)
    have X := Lib.hid (X.out.below hb)
    have XC := Lib.hid (XC.out.kept hb)
    clear hb
    go_wp2_with fail
    refine (EQ.out _ _ gs ys _ (O.out.frow (SM.out _ GL.out)) (Y.out.below B3.out) (same_of_map GM.out YM.out)).mono ?_
    rintro _ w5 ⟨rfl, hb⟩
    have H6 := Lib.hid (Nat.le_trans H6.out hb.size)
    have B3 := Lib.hid (below_step B3.out hb)
    have X := Lib.hid (X.out.below hb)
    have XC := Lib.hid (XC.out.kept hb)
    have O := Lib.hid (O.out.kept hb)
    clear hb
    go_wp2_with fail
    refine (toF_new _ zs _ (RV.out.below B3.out) HN.out).mono ?_
    rintro _ w6 ⟨rfl, hr, hb, _⟩
    have Z := Lib.hid hr
    clear hr
    have H6 := Lib.hid (Nat.le_trans H6.out hb.size)
    have B3 := Lib.hid (below_step B3.out hb)
    have X := Lib.hid (X.out.below hb)
    have XC := Lib.hid (XC.out.kept hb)
    have O := Lib.hid (O.out.kept hb)
    clear hb
    go_wp2_with fail
    refine (EQ.out _ _ zs zs _ X.out Z.out (SameList.refl _)).mono ?_
    rintro _ w7 ⟨rfl, hb⟩
    clear Z X
    have H6 := Lib.hid (Nat.le_trans H6.out hb.size)
    have B3 := Lib.hid (below_step B3.out hb)
    have XC := Lib.hid (XC.out.kept hb)
    have O := Lib.hid (O.out.kept hb)
    clear hb
    go_wp2_with fail
    refine (markX _ zs _ XC.out HN.out).mono ?_
    rintro _ w8 ⟨rfl, hon⟩
    have B3 := Lib.hid (B3.out.trans (hon.below (Nat.le_refl _)))
    have O := Lib.hid (O.out.far hon XL.out)
    have H6 := Lib.hid (Nat.le_trans H6.out (hon.below (Nat.zero_le _)).size)
    clear hon XC
    go_wp2_with fail
    refine (EQ.out _ _ gs ys _ (O.out.frow (SM.out _ GL.out)) (Y.out.below B3.out) (same_of_map GM.out YM.out)).mono ?_
    rintro _ w9 ⟨rfl, hb⟩
    have H6 := Lib.hid (Nat.le_trans H6.out hb.size)
    have B3 := Lib.hid (below_step B3.out hb)
    have O := Lib.hid (O.out.kept hb)
    clear hb
    go_wp2_with fail
    refine (markO O.out GL.out).mono ?_
    rintro _ w10 ⟨rfl, hO, hm⟩
    have hb := hm H6.out
    have H6 := Lib.hid (Nat.le_trans H6.out hb.size)
    have B3 := Lib.hid (B3.out.trans (hb.mono B5.out))
    have O := Lib.hid hO
    clear hO hm hb
    go_wp2_with fail
    refine (heldO O.out GL.out).mono ?_
    rintro _ w11 ⟨rfl, rfl⟩
    go_wp2_with fail
    refine (toF_new _ zs _ (RV.out.below B3.out) HN.out).mono ?_
    rintro _ w12 ⟨rfl, hr, hb, _⟩
    have Z := Lib.hid hr
    clear hr
    have B3 := Lib.hid (below_step B3.out hb)
    have O := Lib.hid (O.out.kept hb)
    clear hb
    go_wp2_with fail
    refine (CI.out _ _ Z.out).mono ?_
    rintro _ w13 ⟨f, fs, rfl, hO, hm, hb⟩
    have FR := Lib.hid (hO.frow (SM.out _ (SL.out _ hm)))
    have FM := Lib.hid hm
    clear hO hm Z
    have B3 := Lib.hid (below_step B3.out hb)
    have O := Lib.hid (O.out.kept hb)
    clear hb
    go_wp2_with fail
    refine (EQ.out _ _ fs ys _ FR.out (Y.out.below B3.out) (same_of_map FM.out YM.out)).mono ?_
    rintro _ w14 ⟨rfl, hb⟩
    have B3 := Lib.hid (below_step B3.out hb)
    have O := Lib.hid (O.out.kept hb)
    clear hb
    go_wp2_with fail
    refine (heldO O.out GL.out).mono ?_
    rintro _ w15 ⟨rfl, rfl⟩
    go_wp2
    go_ret
    exact Tru.below (below_step Bw.out B3.out)
  · obtain ⟨a, cap, rfl⟩ := h.shape
    clear h
    have gL := HL.out
    go_enter Try.func4, Try.ntmps4
    go_wp2
    go_ret
    exact Tru.same


end Go.Proofs.Ytabdinmodopadab
