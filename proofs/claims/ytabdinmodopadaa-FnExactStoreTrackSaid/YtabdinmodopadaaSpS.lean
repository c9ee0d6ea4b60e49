/- How a track is stored: the specification. -/
import Derived.Test.YtabdinmodopadaaStW
namespace Go.Proofs.Ytabdinmodopadaa
open Go.RowKit
set_option linter.unusedVariables false

set_option maxRecDepth 20000 in
set_option maxHeartbeats 3200000 in
theorem specStP_any (s : ByteArray) (b : Value) (zs : List Int) (p : Nat) (w : World) (h : JRow w b zs) (B0 : tkB s zs = true) (c0 : w.cell? ⟨p, 0, none⟩ = some (.string s)) (c1 : w.cell? ⟨p, 1, none⟩ = some b) : Calls Try.prog 66 #[.pointer (some ⟨p, 0, none⟩)] w fun e w' => e = .returned (.string (strOfNums (toAll s zs))) ∧ Below w.heap.size w w' := by
  have hN := (tkB_parts B0).1
  have hH := (tkB_parts B0).2
  have hs := isN_len hN
  have hp := (pkL_len hH zs.length (Nat.le_refl _)).2
  have hz := (hns_len hH).2
  have LB := Lib.hid (toBody_len B0)
  have H0 := Lib.hid (fun w1 (hb : Below w.heap.size w w1) => (show w1.cell? ⟨p, 0, none⟩ = some (.string s) from (hb.cell (p := ⟨p, 0, none⟩) (cell_lt c0)).trans c0))
  have H1 := Lib.hid (fun w1 (hb : Below w.heap.size w w1) => (show w1.cell? ⟨p, 1, none⟩ = some b from (hb.cell (p := ⟨p, 1, none⟩) (cell_lt c1)).trans c1))
  have HP := Lib.hid (fun w1 (hb : Below w.heap.size w w1) => specPl_any b zs w1 (h.below hb) hH)
  have ck := toChk_bd (s := s) (zs := zs)
  have NS := nums_len s
  have SP := strOfNums_size (pkL zs zs.length)
  have EB : Hid (strOfNums ((((([84, 82, 75, 49] ++ [(s.size : Int)]) ++ nums s) ++ [((pkL zs zs.length).length : Int) % 256, ((pkL zs zs.length).length : Int) / 256]) ++ nums (strOfNums (pkL zs zs.length)))) = strOfNums (toBody s zs)) := Lib.hid (by
    unfold toBody toHead
    simp only [str_app, str_nums])
  have EC : Hid (strOfNums (((((([84, 82, 75, 49] ++ [(s.size : Int)]) ++ nums s) ++ [((pkL zs zs.length).length : Int) % 256, ((pkL zs zs.length).length : Int) / 256]) ++ nums (strOfNums (pkL zs zs.length))) ++ [toChk s zs % 256, toChk s zs / 256])) = strOfNums (toAll s zs)) := Lib.hid (by
    unfold toAll toBody toHead
    simp only [str_app, str_nums])
  have LL : Hid ((((([84, 82, 75, 49] ++ [(s.size : Int)]) ++ nums s) ++ [((pkL zs zs.length).length : Int) % 256, ((pkL zs zs.length).length : Int) / 256]) ++ nums (strOfNums (pkL zs zs.length))).length ≤ 1000) := Lib.hid (by have := LB.out; unfold toBody toHead at this; simp only [List.length_append, nums_len, SP] at this ⊢; exact this)
  have HC := Lib.hid (fun w1 => specCheck_any (strOfNums (toBody s zs)) 0 w1 (by omega) (by omega) (by rw [strOfNums_size]; have := LB.out; omega))
  have CK := Lib.hid (show chkTo (strOfNums (toBody s zs)) 0 (strOfNums (toBody s zs)).size = toChk s zs from rfl)
  have hcs := fun w1 => run_bytes_of_string (P := Try.prog) w1 9 71 5 s Try.underlying9 Try.underlying71 Try.underlying5
  have hcp := fun w1 => run_bytes_of_string (P := Try.prog) w1 9 71 5 (strOfNums (pkL zs zs.length)) Try.underlying9 Try.underlying71 Try.underlying5
  have NP := nums_len (strOfNums (pkL zs zs.length))
  clear B0 hN hH c0 c1 h
  generalize hpk : strOfNums (pkL zs zs.length) = pk at *
  clear hpk
  generalize (pkL zs zs.length).length = L at *
  generalize strOfNums (toBody s zs) = bd at *
  generalize toChk s zs = c at *
  have NSh := Lib.hid NS
  have NPh := Lib.hid NP
  have hcs1 : Hid (∀ w1 : World, (convert 9 71 (.string s)).run Try.prog w1 = .ok (.slice (some ⟨w1.heap.size, 0, none⟩) (nums s).length (grownCap w1 s.size 0 5)) (w1.drew.alloc (.cells (bytesRow s (grownCap w1 s.size 0 5)) 5 ((bytesRow s (grownCap w1 s.size 0 5)).size, (bytesRow s (grownCap w1 s.size 0 5)).size + 1)))) := Lib.hid (fun w1 => by rw [NS]; exact hcs w1)
  have hcp1 : Hid (∀ w1 : World, (convert 9 71 (.string pk)).run Try.prog w1 = .ok (.slice (some ⟨w1.heap.size, 0, none⟩) (nums pk).length (grownCap w1 pk.size 0 5)) (w1.drew.alloc (.cells (bytesRow pk (grownCap w1 pk.size 0 5)) 5 ((bytesRow pk (grownCap w1 pk.size 0 5)).size, (bytesRow pk (grownCap w1 pk.size 0 5)).size + 1)))) := Lib.hid (fun w1 => by rw [NP]; exact hcp w1)
  clear hcs hcp NS NP
  have B4 := Lib.hid (show Below w.heap.size w (w.alloc (.cells #[Value.int .u8 84, .int .u8 82, .int .u8 75, .int .u8 49] 5 (4, 5))) from (Below.refl _ _).alloc (Nat.le_refl _) _)
  have d0 := H0.out (w.alloc (.cells #[Value.int .u8 84, .int .u8 82, .int .u8 75, .int .u8 49] 5 (4, 5))) B4.out
  have hcc := Go.Joins.run_convert_bytes_const_at (P := Try.prog) w 71 5 #[Value.int .u8 84, .int .u8 82, .int .u8 75, .int .u8 49] 4 4 w.heap.size rfl Try.underlying71 Try.underlying5
  have W1 : IntKind.u8.wrap (s.size : Int) = (s.size : Int) := by unfold IntKind.wrap; simp [IntKind.bits, IntKind.signed]; omega
  have q0 : ((w.alloc (.cells #[Value.int .u8 84, .int .u8 82, .int .u8 75, .int .u8 49] 5 (4, 5))).alloc (.cells #[.int .u8 (s.size : Int)] 5)).cell? ⟨w.heap.size, 0, none⟩ = some (.int .u8 84) := ((below_al1 (w.alloc (.cells #[Value.int .u8 84, .int .u8 82, .int .u8 75, .int .u8 49] 5 (4, 5))) (.cells #[.int .u8 (s.size : Int)] 5)).cell (p := ⟨w.heap.size, 0, none⟩) (by show w.heap.size < _; simp)).trans (Go.Joins.cell_alloc_mark_at w #[Value.int .u8 84, .int .u8 82, .int .u8 75, .int .u8 49] 5 (4, 5) w.heap.size 0 rfl)
  have q1 : ((w.alloc (.cells #[Value.int .u8 84, .int .u8 82, .int .u8 75, .int .u8 49] 5 (4, 5))).alloc (.cells #[.int .u8 (s.size : Int)] 5)).cell? ⟨w.heap.size, 1, none⟩ = some (.int .u8 82) := ((below_al1 (w.alloc (.cells #[Value.int .u8 84, .int .u8 82, .int .u8 75, .int .u8 49] 5 (4, 5))) (.cells #[.int .u8 (s.size : Int)] 5)).cell (p := ⟨w.heap.size, 1, none⟩) (by show w.heap.size < _; simp)).trans (Go.Joins.cell_alloc_mark_at w #[Value.int .u8 84, .int .u8 82, .int .u8 75, .int .u8 49] 5 (4, 5) w.heap.size 1 rfl)
  have q2 : ((w.alloc (.cells #[Value.int .u8 84, .int .u8 82, .int .u8 75, .int .u8 49] 5 (4, 5))).alloc (.cells #[.int .u8 (s.size : Int)] 5)).cell? ⟨w.heap.size, 2, none⟩ = some (.int .u8 75) := ((below_al1 (w.alloc (.cells #[Value.int .u8 84, .int .u8 82, .int .u8 75, .int .u8 49] 5 (4, 5))) (.cells #[.int .u8 (s.size : Int)] 5)).cell (p := ⟨w.heap.size, 2, none⟩) (by show w.heap.size < _; simp)).trans (Go.Joins.cell_alloc_mark_at w #[Value.int .u8 84, .int .u8 82, .int .u8 75, .int .u8 49] 5 (4, 5) w.heap.size 2 rfl)
  have q3 : ((w.alloc (.cells #[Value.int .u8 84, .int .u8 82, .int .u8 75, .int .u8 49] 5 (4, 5))).alloc (.cells #[.int .u8 (s.size : Int)] 5)).cell? ⟨w.heap.size, 3, none⟩ = some (.int .u8 49) := ((below_al1 (w.alloc (.cells #[Value.int .u8 84, .int .u8 82, .int .u8 75, .int .u8 49] 5 (4, 5))) (.cells #[.int .u8 (s.size : Int)] 5)).cell (p := ⟨w.heap.size, 3, none⟩) (by show w.heap.size < _; simp)).trans (Go.Joins.cell_alloc_mark_at w #[Value.int .u8 84, .int .u8 82, .int .u8 75, .int .u8 49] 5 (4, 5) w.heap.size 3 rfl)
  go_enter Try.func66, Try.ntmps66
  go_wp2_with (at_builtin; refine wpList_head rfl _ _ rfl w.heap.size rfl 84 82 75 49 q0 q1 q2 q3 _ _ (s.size : Int) rfl ((World.cell?_alloc_at _ _ _ _ (by simp)).trans rfl) ?_; intro v1 w1 hown' hb; have O1 := Lib.hid (hown'.down (b' := w.heap.size) (by simp; omega)); have B1 := Lib.hid ((B4.out.alloc (by simp) _).trans (hb.mono (by simp; omega))); have c0 := H0.out w1 B1.out; have hcv := hcs1.out; clear hown' hb d0 hcc; refine Stop.go ?_)
  refine Stop.mk ?_
  go_wp2_with (at_builtin; refine wpList_catU rfl _ _ rfl w.heap.size _ _ (nums s) rfl ((show OwnU w1.drew w.heap.size v1 _ from O1.out).al _) w1.heap.size 0 _ rfl (fun i hi => bytes_cell w1.drew s _ _ i hi) (by simp) (by have := NSh.out; omega) (by have := B1.out.size; simp; omega) ?_; intro v2 w2 hown' hb; have O2 := Lib.hid hown'; have B2 := Lib.hid (((below_drewN B1.out 1).alloc (by have := B1.out.size; simpa using this) _).trans hb); have c1 := H1.out w2 B2.out; clear hown' hb c0 hcv; refine Stop.go ?_)
  refine Stop.mk ?_
  have HP2 := HP
  go_wp2_with fail
  refine (HP2.out _ B2.out).mono ?_
  rintro e w3 ⟨rfl, hb⟩
  have B3 := Lib.hid (B2.out.trans (hb.mono B2.out.size))
  have O3 := Lib.hid (O2.out.kept hb)
  clear hb c1 HP HP2 W1
  have R1 : (L : Int).tmod 256 = (L : Int) % 256 := by rw [Int.tmod_eq_emod_of_nonneg (by omega)]
  have R2 : (L : Int).tdiv 256 = (L : Int) / 256 := by rw [Int.tdiv_eq_ediv_of_nonneg (by omega)]
  have X1 : IntKind.u8.wrap ((L : Int) % 256) = (L : Int) % 256 := by unfold IntKind.wrap; simp [IntKind.bits, IntKind.signed]
  have X2 : IntKind.u8.wrap ((L : Int) / 256) = (L : Int) / 256 := by unfold IntKind.wrap; simp [IntKind.bits, IntKind.signed]; omega
  go_wp2_with (at_builtin; refine wpList_catU rfl _ _ rfl w.heap.size _ _ [(L : Int) % 256, (L : Int) / 256] rfl (O3.out.al _) w3.heap.size 0 _ rfl (fun i hi => by rcases i with _ | _ | i; exact (World.cell?_alloc_at _ _ _ _ rfl).trans rfl; exact (World.cell?_alloc_at _ _ _ _ rfl).trans rfl; exact absurd hi (by simp)) (by simp; have := NSh.out; omega) (by simp) (by have := B3.out.size; simp; omega) ?_; intro v4 w4 hown' hb; have O4 := Lib.hid hown'; have B4 := Lib.hid ((B3.out.alloc (by have := B3.out.size; simpa using this) _).trans hb); have hcv := hcp1.out; clear hown' hb R1 R2 X1 X2; refine Stop.go ?_)
  refine Stop.mk ?_
  go_wp2_with (at_builtin; refine wpList_catU rfl _ _ rfl w.heap.size _ _ (nums pk) rfl ((show OwnU w4.drew w.heap.size v4 _ from O4.out).al _) w4.heap.size 0 _ rfl (fun i hi => bytes_cell w4.drew pk _ _ i hi) (by simp; have := NSh.out; omega) (by have := NPh.out; omega) (by have := B4.out.size; simp; omega) ?_; intro v5 w5 hown' hb; have O5 := Lib.hid hown'; have B5 := Lib.hid (((below_drewN B4.out 1).alloc (by have := B4.out.size; simpa using this) _).trans hb); clear hown' hb hcv; refine Stop.go ?_)
  refine Stop.mk ?_
  have LT : Hid (1 ≤ (((([84, 82, 75, 49] ++ [(s.size : Int)]) ++ nums s) ++ [(L : Int) % 256, (L : Int) / 256]) ++ nums pk).length) := Lib.hid (by simp)
  generalize (((([84, 82, 75, 49] ++ [(s.size : Int)]) ++ nums s) ++ [(L : Int) % 256, (L : Int) / 256]) ++ nums pk) = T5 at *
  obtain ⟨g, cap, rfl⟩ := O5.out.openS LT.out
  have hc5 := run_convert_bytes_arg (P := Try.prog) w5 71 5 Try.underlying71 Try.underlying5 g 0 _ cap _ rfl (fun i hi => by rw [Nat.zero_add]; exact O5.out.cellAt i hi) 9 Try.underlying9
  rw [EB.out] at hc5
  go_wp2_with fail
  refine (HC.out _).mono ?_
  rw [CK.out]
  rintro e w6 ⟨rfl, rfl⟩
  clear hc5 SP
  have R1 : c.tmod 256 = c % 256 := Int.tmod_eq_emod_of_nonneg ck.1
  have R2 : c.tdiv 256 = c / 256 := Int.tdiv_eq_ediv_of_nonneg ck.1
  have X1 : IntKind.u8.wrap (c % 256) = c % 256 := by unfold IntKind.wrap; simp [IntKind.bits, IntKind.signed]
  have X2 : IntKind.u8.wrap (c / 256) = c / 256 := by unfold IntKind.wrap; simp [IntKind.bits, IntKind.signed]; omega
  go_wp2_with (at_builtin; refine wpList_catU rfl _ _ rfl w.heap.size _ _ [c % 256, c / 256] rfl (O5.out.al _) w5.heap.size 0 _ rfl (fun i hi => by rcases i with _ | _ | i; exact (World.cell?_alloc_at _ _ _ _ rfl).trans rfl; exact (World.cell?_alloc_at _ _ _ _ rfl).trans rfl; exact absurd hi (by simp)) (Nat.le_trans LL.out (by decide)) (by simp) (by have := B5.out.size; simp; omega) ?_; intro v6 w6 hown' hb; generalize hT6 : T5 ++ [c % 256, c / 256] = T6 at *; obtain ⟨g2, cap2, rfl⟩ := hown'.openS (by rw [← hT6]; simp); clear hT6; have O6 := Lib.hid hown'; have B6 := Lib.hid ((B5.out.alloc (by have := B5.out.size; simpa using this) _).trans hb); have hc6 := run_convert_bytes_arg (P := Try.prog) w6 71 5 Try.underlying71 Try.underlying5 g2 0 _ cap2 _ rfl (fun i hi => by rw [Nat.zero_add]; exact O6.out.cellAt i hi) 9 Try.underlying9; rw [EC.out] at hc6; clear hown' hb R1 R2 X1 X2; refine Stop.go ?_)
  refine Stop.mk ?_
  go_wp2
  go_ret
  exact ⟨rfl, B6.out⟩

set_option maxHeartbeats 800000 in
theorem specSo_any (s : ByteArray) (b : Value) (zs : List Int) (w : World) (h : JRow w b zs) (hs : s.size ≤ 1048576) : Calls Try.prog 39 #[.agg #[.string s, b]] w (PkB (stT s zs) (tkB s zs) w) := by
  have A := Lib.hid (Cells.made w (tkv s b) 40)
  have Bw := Lib.hid (below_al1 w (.cells (tkv s b).toArray 40))
  have HV := Lib.hid (specTkP_any s b zs w.heap.size (w.alloc (.cells (tkv s b).toArray 40)) (h.below Bw.out) hs (A.out.at 0 rfl) (A.out.at 1 rfl))
  have HS := Lib.hid (fun (e : tkB s zs = true) => specStP_any s b zs w.heap.size (w.alloc (.cells (tkv s b).toArray 40)) (h.below Bw.out) e (A.out.at 0 rfl) (A.out.at 1 rfl))
  clear h hs
  unfold stT
  cases B0 : tkB s zs
  · have HR := Lib.hid B0
    clear B0 HS
    go_enter Try.func39, Try.ntmps39
    go_wp2_with fail
    refine HV.out.mono ?_
    rw [HR.out]
    rintro e w' ⟨rfl, rfl⟩
    go_wp2
    go_ret2
    exact ⟨rfl, Bw.out⟩
  · have HR := Lib.hid B0
    have HS := Lib.hid (HS.out B0)
    clear B0
    go_enter Try.func39, Try.ntmps39
    go_wp2_with fail
    refine HV.out.mono ?_
    rw [HR.out]
    rintro e w' ⟨rfl, rfl⟩
    go_wp2_with fail
    refine HS.out.mono ?_
    rintro e w2 ⟨rfl, hb⟩
    have B2 := Lib.hid (below_step Bw.out hb)
    clear hb
    go_wp2
    go_ret2
    exact ⟨rfl, B2.out⟩

end Go.Proofs.Ytabdinmodopadaa
