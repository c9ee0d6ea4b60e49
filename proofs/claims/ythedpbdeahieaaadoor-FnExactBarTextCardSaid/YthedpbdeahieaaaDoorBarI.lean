/- Whether a bar is valid: the code's side. -/
import Derived.Test.YthedpbdeahieaaaDoorBarV
namespace Go.Proofs.YthedpbdeahieaaaDoor
open Go.RowKit
set_option linter.unusedVariables false

/-- the closure over a bar's warmth: its own cell, and the stuff's block -/
structure Clo (w : World) (c d : Nat) (s : SF) : Prop where
  C : Cells w c [.func (.func 125) #[] #[.pointer (some ⟨d, 0, none⟩)]]
  D : Cells w d s.vs
theorem Clo.drewN {w : World} {c d n : Nat} {s : SF} (h : Clo w c d s) : Clo (w.drewN n) c d s := ⟨h.C.drewN, h.D.drewN⟩
theorem Clo.kept {w w' : World} {c d : Nat} {s : SF} (h : Clo w c d s) (hb : Below w.heap.size w w') : Clo w' c d s := ⟨h.C.kept hb, h.D.kept hb⟩

theorem isHeat_any (s : SF) (y c d : Nat) (w : World) (h : Clo w c d s) : Calls Tryd.prog 106 #[.float .f32 y, .pointer (some ⟨c, 0, none⟩)] w (Bol (heatOk s y) w) := by
  have D := Lib.hid h.D
  have c0 := h.C.at 0 rfl
  clear h
  cases B : fin .f32 y
  · have V := Lib.hid (hOk0 (s := s) B)
    have HB := Lib.hid B
    clear B
    go_enter Tryd.func106, Tryd.ntmps106
    go_wp2_with (go_at_call 102; refine (implFinite_any _ _).mono ?_; rw [HB.out]; rintro e w' ⟨rfl, n, rfl⟩)
    go_ret
    exact ⟨ret_b V.out, _, rfl⟩
  · have HB := Lib.hid B
    have V := Lib.hid (show fin .f32 (warmF s y) = heatOk s y by unfold heatOk; rw [B]; rfl)
    clear B
    go_enter Tryd.func106, Tryd.ntmps106
    go_wp2_with fail
    refine (implFinite_any _ _).mono ?_
    rw [HB.out]
    rintro e w' ⟨rfl, n, rfl⟩
    go_wp2_with fail
    refine (litWarm_any s y d _ D.out.drewN).mono ?_
    rintro e w' ⟨r, hr, rfl, n2, rfl⟩
    have HR := Lib.hid (fin_of_cn hr)
    clear hr
    go_wp2_with fail
    refine (implFinite_any _ _).mono ?_
    rw [HR.out, V.out]
    rintro e w' ⟨rfl, n3, rfl⟩
    go_wp2
    go_ret
    exact ⟨rfl, _, rfl⟩

theorem litHeat_any (s : SF) (y q c d : Nat) (w : World) (hd : Clo w c d s) (hq : w.cell? ⟨q, 0, none⟩ = some (.func (.func 106) #[] #[.pointer (some ⟨c, 0, none⟩)])) :
    Calls Tryd.prog 123 #[.float .f32 y, .pointer (some ⟨q, 0, none⟩)] w (Bol (!(heatOk s y)) w) := by
  have HD := Lib.hid hd
  clear hd
  go_enter Tryd.func123, Tryd.ntmps123
  go_wp2_with (go_at_call 106; refine (isHeat_any s y c d _ HD.out).mono ?_; rintro e w' ⟨rfl, n, rfl⟩)
  go_ret
  exact ⟨rfl, _, rfl⟩

theorem idxHeat_any (s : SF) (v : Value) (zs : List Nat) (q c d : Nat) (w : World) (hd : Clo w c d s) (h : FRow w v zs) (hq : w.cell? ⟨q, 0, none⟩ = some (.func (.func 106) #[] #[.pointer (some ⟨c, 0, none⟩)])) :
    Calls Tryd.prog 140 #[v, .func (.func 123) #[] #[.pointer (some ⟨q, 0, none⟩)]] w (Idx (zs.any (fun z => !(heatOk s z))) w) := by
  have HD := Lib.hid hd
  clear hd
  have VS := Lib.hid (fun k (hk : k < zs.length) (h : (!(heatOk s (zs.getD k 0))) = true) => any_some (f := fun z => !(heatOk s z)) hk h)
  have VN := Lib.hid (fun h => any_none (f := fun z => !(heatOk s z)) (zs := zs) h)
  have HC := Lib.hid (fun (hn : 1 ≤ zs.length) => h.cells hn)
  have HL := Lib.hid h.len
  obtain ⟨a, cap, rfl⟩ := h.shape
  clear h
  generalize hb : zs.any (fun z => !(heatOk s z)) = b at *
  clear hb
  have HG : Hid (∀ k, zs.getD k 0 = zs.getD k 0) := Lib.hid (fun k => rfl)
  generalize hn : zs.length = n at *
  clear hn
  go_enter Tryd.func140, Tryd.ntmps140
  go_wp2
  go_loopw [5, 8] (fun _ i wr => ∃ k q : Nat, k ≤ n ∧ i = .int .i64 k ∧ Hid (∀ j, j < k → (!(heatOk s (zs.getD j 0))) = false) ∧ wr = w.drewN q) (fun _ i _ => n - (intOf i).toNat)
  case atStart => exact ⟨0, 0, Nat.zero_le _, rfl, Lib.hid (fun j hj => absurd hj (Nat.not_lt_zero _)), rfl⟩
  case round =>
    obtain ⟨k, q, hk, rfl, hall, rfl⟩ := hrel
    by_cases hlt : k < n
    · obtain ⟨b0, o0, cap', e, hc⟩ := HC.out (by omega)
      have ea : a = some ⟨b0, o0, none⟩ := by cases e; rfl
      have z0 := hc k hlt
      have VSk := Lib.hid (VS.out k hlt)
      clear e hc
      subst ea
      have hG := HL.out
      have hi : (0 : Int) ≤ (k : Int) := by omega
      have hi' : (k : Int) < (n : Int) := by omega
      generalize hy : zs.getD k 0 = y at *
      cases B : heatOk s y
      · have V := Lib.hid (VSk.out (by rw [B]; rfl))
        have HB := Lib.hid B
        clear B
        go_wp2_with (go_at_call 123; refine (litHeat_any s y _ c d _ HD.out.drewN (by simpa using hq)).mono ?_; rw [HB.out]; rintro e w' ⟨rfl, n, rfl⟩)
        go_ret
        exact ⟨_, rfl, by rw [V.out]; simp, _, rfl⟩
      · have V := Lib.hid (show (!(heatOk s (zs.getD k 0))) = false by rw [hy, B]; rfl)
        have HB := Lib.hid B
        clear hy B
        go_wp2_with (go_at_call 123; refine (litHeat_any s y _ c d _ HD.out.drewN (by simpa using hq)).mono ?_; rw [HB.out]; rintro e w' ⟨rfl, n, rfl⟩)
        go_roundw
        case rel => exact ⟨k + 1, _, by omega, by go_num, Lib.hid (fun j hj => by rcases Nat.lt_succ_iff_lt_or_eq.1 hj with h | h; exact hall.out j h; subst h; exact V.out), rfl⟩
        case measure => simp [intOf]; omega
    · have e := Lib.hid (show k = n by omega)
      go_wp2
      go_ret
      have := e.out
      subst this
      exact ⟨_, rfl, by rw [VN.out hall.out]; rfl, _, rfl⟩

theorem allHeat_any (s : SF) (v : Value) (zs : List Nat) (c d : Nat) (w : World) (hd : Clo w c d s) (h : FRow w v zs) : Calls Tryd.prog 100 #[v, .func (.func 106) #[] #[.pointer (some ⟨c, 0, none⟩)]] w (BolB (zs.all (heatOk s)) w) := by
  have H := Lib.hid (h.below (below_al1 w (.cells [Value.func (.func 106) #[] #[.pointer (some ⟨c, 0, none⟩)]].toArray 134)))
  have HD := Lib.hid (hd.kept (below_al1 w (.cells [Value.func (.func 106) #[] #[.pointer (some ⟨c, 0, none⟩)]].toArray 134)))
  have e := Lib.hid (show (!(zs.any (fun z => !(heatOk s z)))) = zs.all (heatOk s) from not_any_not _ _)
  clear h hd
  go_enter Tryd.func100, Tryd.ntmps100
  go_wp2_with (first | (go_at_call 140; refine (idxHeat_any s _ zs _ c d _ HD.out H.out (by simp)).mono ?_; rintro e w' ⟨i, rfl, hi, n, rfl⟩) | go_in)
  go_ret
  exact ⟨ret_b e.out.symm, below_drewN (below_al1 _ _) _⟩


theorem vBar_and (s : SF) (st : Nat) (zs : List Nat) : vBar s st zs = (vStuff s && pos st && decide (1 ≤ zs.length) && decide (zs.length ≤ 48) && zs.all (heatOk s)) := rfl

set_option maxRecDepth 10000 in
set_option maxHeartbeats 1600000 in
theorem implVBar_n1 (s : SF) (st : Nat) (v : Value) (zs : List Nat) (w : World) (h : FRow w v zs) (hS : vStuff s = false) : Calls Tryd.prog 80 #[.agg #[.float .f32 s.so, .float .f32 s.fl, .float .f32 s.es, .float .f32 s.ef, .float .f32 s.pt, .float .f32 s.la, .float .f32 st, v]] w (BolB (vBar s st zs) w) := by
  have V := Lib.hid (vBar_no (s := s) (st := st) (zs := zs) (by unfold hBar; simp [hS]))
  have HS := Lib.hid hS
  clear hS
  have R := Lib.hid (fun w1 (hb : Below w.heap.size w w1) => h.below hb)
  obtain ⟨a, cap, rfl⟩ := h.shape
  clear h
  have A := Lib.hid (Cells.made w (bvs s st (.slice a zs.length cap)) 69)
  have Bw := Lib.hid (below_al1 w (.cells (bvs s st (.slice a zs.length cap)).toArray 69))
  generalize hvb : vBar s st zs = bb at *
  clear hvb
  generalize hn : zs.length = n at *
  clear hn
  go_enter Tryd.func80, Tryd.ntmps80
  go_wp2_with fail
  refine (warmIn_any s _).mono ?_
  rintro e w1 ⟨rfl, rfl⟩
  have D := Cells.made (w.alloc (.cells (bvs s st (.slice a n cap)).toArray 69)) s.vs 67
  rw [show (w.alloc (.cells (bvs s st (.slice a n cap)).toArray 69)).heap.size = w.heap.size + 1 from by simp] at D
  have A := A.out.al (.cells #[.float .f32 s.so, .float .f32 s.fl, .float .f32 s.es, .float .f32 s.ef, .float .f32 s.pt, .float .f32 s.la] 67)
  have Bw := below_step Bw.out (below_al1 _ (.cells #[.float .f32 s.so, .float .f32 s.fl, .float .f32 s.es, .float .f32 s.ef, .float .f32 s.pt, .float .f32 s.la] 67))

  have C := Cells.made ((w.alloc (.cells (bvs s st (.slice a n cap)).toArray 69)).alloc (.cells #[.float .f32 s.so, .float .f32 s.fl, .float .f32 s.es, .float .f32 s.ef, .float .f32 s.pt, .float .f32 s.la] 67)) [.func (.func 125) #[] #[.pointer (some ⟨w.heap.size + 1, 0, none⟩)]] 140
  rw [show ((w.alloc (.cells (bvs s st (.slice a n cap)).toArray 69)).alloc (.cells #[.float .f32 s.so, .float .f32 s.fl, .float .f32 s.es, .float .f32 s.ef, .float .f32 s.pt, .float .f32 s.la] 67)).heap.size = w.heap.size + 1 + 1 from by simp] at C
  have K := Lib.hid (Clo.mk C (D.al (.cells #[.func (.func 125) #[] #[.pointer (some ⟨w.heap.size + 1, 0, none⟩)]] 140)))
  have A := Lib.hid (A.al (.cells #[.func (.func 125) #[] #[.pointer (some ⟨w.heap.size + 1, 0, none⟩)]] 140))
  have Bw := Lib.hid (below_step Bw (below_al1 _ (.cells #[.func (.func 125) #[] #[.pointer (some ⟨w.heap.size + 1, 0, none⟩)]] 140)))
  clear C D
  have c0 := A.out.at 0 rfl
  have c1 := A.out.at 1 rfl
  have c2 := A.out.at 2 rfl
  have c3 := A.out.at 3 rfl
  have c4 := A.out.at 4 rfl
  have c5 := A.out.at 5 rfl
  have c6 := A.out.at 6 rfl
  have c7 := A.out.at 7 rfl
  go_wp2_with fail
  refine (implVStuff_any s _).mono ?_
  rw [HS.out]
  rintro _ w3 ⟨rfl, hb⟩
  have Bw := Lib.hid (below_step Bw.out hb)
  have A := Lib.hid (A.out.kept hb)
  have K := Lib.hid (K.out.kept hb)
  clear hb
  have c0 := A.out.at 0 rfl
  have c1 := A.out.at 1 rfl
  have c2 := A.out.at 2 rfl
  have c3 := A.out.at 3 rfl
  have c4 := A.out.at 4 rfl
  have c5 := A.out.at 5 rfl
  have c6 := A.out.at 6 rfl
  have c7 := A.out.at 7 rfl
  go_wp2
  go_ret
  exact ⟨ret_b V.out, (by repeat (first | exact Bw.out | exact Below.refl _ _ | refine Below.setCell ?_ (by first | exact Nat.le_refl _ | (simp; done) | (simp; omega) | omega) _ | refine below_drewN ?_ _ | refine Below.alloc ?_ (by first | exact Nat.le_refl _ | (simp; done) | (simp; omega) | omega) _))⟩

set_option maxRecDepth 10000 in
set_option maxHeartbeats 1600000 in
theorem implVBar_n2 (s : SF) (st : Nat) (v : Value) (zs : List Nat) (w : World) (h : FRow w v zs) (hS : vStuff s = true) (hP : pos st = false) : Calls Tryd.prog 80 #[.agg #[.float .f32 s.so, .float .f32 s.fl, .float .f32 s.es, .float .f32 s.ef, .float .f32 s.pt, .float .f32 s.la, .float .f32 st, v]] w (BolB (vBar s st zs) w) := by
  have V := Lib.hid (vBar_no (s := s) (st := st) (zs := zs) (by unfold hBar; simp [hS, hP]))
  have HS := Lib.hid hS
  clear hS
  have HP := Lib.hid hP
  clear hP
  have R := Lib.hid (fun w1 (hb : Below w.heap.size w w1) => h.below hb)
  obtain ⟨a, cap, rfl⟩ := h.shape
  clear h
  have A := Lib.hid (Cells.made w (bvs s st (.slice a zs.length cap)) 69)
  have Bw := Lib.hid (below_al1 w (.cells (bvs s st (.slice a zs.length cap)).toArray 69))
  generalize hvb : vBar s st zs = bb at *
  clear hvb
  generalize hn : zs.length = n at *
  clear hn
  go_enter Tryd.func80, Tryd.ntmps80
  go_wp2_with fail
  refine (warmIn_any s _).mono ?_
  rintro e w1 ⟨rfl, rfl⟩
  have D := Cells.made (w.alloc (.cells (bvs s st (.slice a n cap)).toArray 69)) s.vs 67
  rw [show (w.alloc (.cells (bvs s st (.slice a n cap)).toArray 69)).heap.size = w.heap.size + 1 from by simp] at D
  have A := A.out.al (.cells #[.float .f32 s.so, .float .f32 s.fl, .float .f32 s.es, .float .f32 s.ef, .float .f32 s.pt, .float .f32 s.la] 67)
  have Bw := below_step Bw.out (below_al1 _ (.cells #[.float .f32 s.so, .float .f32 s.fl, .float .f32 s.es, .float .f32 s.ef, .float .f32 s.pt, .float .f32 s.la] 67))

  have C := Cells.made ((w.alloc (.cells (bvs s st (.slice a n cap)).toArray 69)).alloc (.cells #[.float .f32 s.so, .float .f32 s.fl, .float .f32 s.es, .float .f32 s.ef, .float .f32 s.pt, .float .f32 s.la] 67)) [.func (.func 125) #[] #[.pointer (some ⟨w.heap.size + 1, 0, none⟩)]] 140
  rw [show ((w.alloc (.cells (bvs s st (.slice a n cap)).toArray 69)).alloc (.cells #[.float .f32 s.so, .float .f32 s.fl, .float .f32 s.es, .float .f32 s.ef, .float .f32 s.pt, .float .f32 s.la] 67)).heap.size = w.heap.size + 1 + 1 from by simp] at C
  have K := Lib.hid (Clo.mk C (D.al (.cells #[.func (.func 125) #[] #[.pointer (some ⟨w.heap.size + 1, 0, none⟩)]] 140)))
  have A := Lib.hid (A.al (.cells #[.func (.func 125) #[] #[.pointer (some ⟨w.heap.size + 1, 0, none⟩)]] 140))
  have Bw := Lib.hid (below_step Bw (below_al1 _ (.cells #[.func (.func 125) #[] #[.pointer (some ⟨w.heap.size + 1, 0, none⟩)]] 140)))
  clear C D
  have c0 := A.out.at 0 rfl
  have c1 := A.out.at 1 rfl
  have c2 := A.out.at 2 rfl
  have c3 := A.out.at 3 rfl
  have c4 := A.out.at 4 rfl
  have c5 := A.out.at 5 rfl
  have c6 := A.out.at 6 rfl
  have c7 := A.out.at 7 rfl
  go_wp2_with fail
  refine (implVStuff_any s _).mono ?_
  rw [HS.out]
  rintro _ w3 ⟨rfl, hb⟩
  have Bw := Lib.hid (below_step Bw.out hb)
  have A := Lib.hid (A.out.kept hb)
  have K := Lib.hid (K.out.kept hb)
  clear hb
  have c0 := A.out.at 0 rfl
  have c1 := A.out.at 1 rfl
  have c2 := A.out.at 2 rfl
  have c3 := A.out.at 3 rfl
  have c4 := A.out.at 4 rfl
  have c5 := A.out.at 5 rfl
  have c6 := A.out.at 6 rfl
  have c7 := A.out.at 7 rfl
  go_wp2_with fail
  refine (implPos_any st _).mono ?_
  rw [HP.out]
  rintro e w4 ⟨rfl, n2, rfl⟩
  go_wp2
  go_ret
  exact ⟨ret_b V.out, (by repeat (first | exact Bw.out | exact Below.refl _ _ | refine Below.setCell ?_ (by first | exact Nat.le_refl _ | (simp; done) | (simp; omega) | omega) _ | refine below_drewN ?_ _ | refine Below.alloc ?_ (by first | exact Nat.le_refl _ | (simp; done) | (simp; omega) | omega) _))⟩

set_option maxRecDepth 10000 in
set_option maxHeartbeats 1600000 in
theorem implVBar_n3 (s : SF) (st : Nat) (v : Value) (zs : List Nat) (w : World) (h : FRow w v zs) (hS : vStuff s = true) (hP : pos st = true) (hl : zs.length < 1) : Calls Tryd.prog 80 #[.agg #[.float .f32 s.so, .float .f32 s.fl, .float .f32 s.es, .float .f32 s.ef, .float .f32 s.pt, .float .f32 s.la, .float .f32 st, v]] w (BolB (vBar s st zs) w) := by
  have V := Lib.hid (vBar_no (s := s) (st := st) (zs := zs) (by unfold hBar; simp [hS, hP]; omega))
  have HS := Lib.hid hS
  clear hS
  have HP := Lib.hid hP
  clear hP
  have R := Lib.hid (fun w1 (hb : Below w.heap.size w w1) => h.below hb)
  obtain ⟨a, cap, rfl⟩ := h.shape
  clear h
  have A := Lib.hid (Cells.made w (bvs s st (.slice a zs.length cap)) 69)
  have Bw := Lib.hid (below_al1 w (.cells (bvs s st (.slice a zs.length cap)).toArray 69))
  generalize hvb : vBar s st zs = bb at *
  clear hvb
  generalize hn : zs.length = n at *
  clear hn
  have f1 : decide ((1 : Int) ≤ n) = false := by simp; omega
  clear hl
  go_enter Tryd.func80, Tryd.ntmps80
  go_wp2_with fail
  refine (warmIn_any s _).mono ?_
  rintro e w1 ⟨rfl, rfl⟩
  have D := Cells.made (w.alloc (.cells (bvs s st (.slice a n cap)).toArray 69)) s.vs 67
  rw [show (w.alloc (.cells (bvs s st (.slice a n cap)).toArray 69)).heap.size = w.heap.size + 1 from by simp] at D
  have A := A.out.al (.cells #[.float .f32 s.so, .float .f32 s.fl, .float .f32 s.es, .float .f32 s.ef, .float .f32 s.pt, .float .f32 s.la] 67)
  have Bw := below_step Bw.out (below_al1 _ (.cells #[.float .f32 s.so, .float .f32 s.fl, .float .f32 s.es, .float .f32 s.ef, .float .f32 s.pt, .float .f32 s.la] 67))

  have C := Cells.made ((w.alloc (.cells (bvs s st (.slice a n cap)).toArray 69)).alloc (.cells #[.float .f32 s.so, .float .f32 s.fl, .float .f32 s.es, .float .f32 s.ef, .float .f32 s.pt, .float .f32 s.la] 67)) [.func (.func 125) #[] #[.pointer (some ⟨w.heap.size + 1, 0, none⟩)]] 140
  rw [show ((w.alloc (.cells (bvs s st (.slice a n cap)).toArray 69)).alloc (.cells #[.float .f32 s.so, .float .f32 s.fl, .float .f32 s.es, .float .f32 s.ef, .float .f32 s.pt, .float .f32 s.la] 67)).heap.size = w.heap.size + 1 + 1 from by simp] at C
  have K := Lib.hid (Clo.mk C (D.al (.cells #[.func (.func 125) #[] #[.pointer (some ⟨w.heap.size + 1, 0, none⟩)]] 140)))
  have A := Lib.hid (A.al (.cells #[.func (.func 125) #[] #[.pointer (some ⟨w.heap.size + 1, 0, none⟩)]] 140))
  have Bw := Lib.hid (below_step Bw (below_al1 _ (.cells #[.func (.func 125) #[] #[.pointer (some ⟨w.heap.size + 1, 0, none⟩)]] 140)))
  clear C D
  have c0 := A.out.at 0 rfl
  have c1 := A.out.at 1 rfl
  have c2 := A.out.at 2 rfl
  have c3 := A.out.at 3 rfl
  have c4 := A.out.at 4 rfl
  have c5 := A.out.at 5 rfl
  have c6 := A.out.at 6 rfl
  have c7 := A.out.at 7 rfl
  go_wp2_with fail
  refine (implVStuff_any s _).mono ?_
  rw [HS.out]
  rintro _ w3 ⟨rfl, hb⟩
  have Bw := Lib.hid (below_step Bw.out hb)
  have A := Lib.hid (A.out.kept hb)
  have K := Lib.hid (K.out.kept hb)
  clear hb
  have c0 := A.out.at 0 rfl
  have c1 := A.out.at 1 rfl
  have c2 := A.out.at 2 rfl
  have c3 := A.out.at 3 rfl
  have c4 := A.out.at 4 rfl
  have c5 := A.out.at 5 rfl
  have c6 := A.out.at 6 rfl
  have c7 := A.out.at 7 rfl
  go_wp2_with fail
  refine (implPos_any st _).mono ?_
  rw [HP.out]
  rintro e w4 ⟨rfl, n2, rfl⟩
  go_wp2
  go_ret
  exact ⟨ret_b V.out, (by repeat (first | exact Bw.out | exact Below.refl _ _ | refine Below.setCell ?_ (by first | exact Nat.le_refl _ | (simp; done) | (simp; omega) | omega) _ | refine below_drewN ?_ _ | refine Below.alloc ?_ (by first | exact Nat.le_refl _ | (simp; done) | (simp; omega) | omega) _))⟩

set_option maxRecDepth 10000 in
set_option maxHeartbeats 1600000 in
theorem implVBar_n4 (s : SF) (st : Nat) (v : Value) (zs : List Nat) (w : World) (h : FRow w v zs) (hS : vStuff s = true) (hP : pos st = true) (hl : 48 < zs.length) : Calls Tryd.prog 80 #[.agg #[.float .f32 s.so, .float .f32 s.fl, .float .f32 s.es, .float .f32 s.ef, .float .f32 s.pt, .float .f32 s.la, .float .f32 st, v]] w (BolB (vBar s st zs) w) := by
  have V := Lib.hid (vBar_no (s := s) (st := st) (zs := zs) (by unfold hBar; simp [hS, hP]; omega))
  have HS := Lib.hid hS
  clear hS
  have HP := Lib.hid hP
  clear hP
  have R := Lib.hid (fun w1 (hb : Below w.heap.size w w1) => h.below hb)
  obtain ⟨a, cap, rfl⟩ := h.shape
  clear h
  have A := Lib.hid (Cells.made w (bvs s st (.slice a zs.length cap)) 69)
  have Bw := Lib.hid (below_al1 w (.cells (bvs s st (.slice a zs.length cap)).toArray 69))
  generalize hvb : vBar s st zs = bb at *
  clear hvb
  generalize hn : zs.length = n at *
  clear hn
  have f1 : decide ((1 : Int) ≤ n) = true := by simp; omega
  have f2 : decide ((n : Int) ≤ 48) = false := by simp; omega
  clear hl
  go_enter Tryd.func80, Tryd.ntmps80
  go_wp2_with fail
  refine (warmIn_any s _).mono ?_
  rintro e w1 ⟨rfl, rfl⟩
  have D := Cells.made (w.alloc (.cells (bvs s st (.slice a n cap)).toArray 69)) s.vs 67
  rw [show (w.alloc (.cells (bvs s st (.slice a n cap)).toArray 69)).heap.size = w.heap.size + 1 from by simp] at D
  have A := A.out.al (.cells #[.float .f32 s.so, .float .f32 s.fl, .float .f32 s.es, .float .f32 s.ef, .float .f32 s.pt, .float .f32 s.la] 67)
  have Bw := below_step Bw.out (below_al1 _ (.cells #[.float .f32 s.so, .float .f32 s.fl, .float .f32 s.es, .float .f32 s.ef, .float .f32 s.pt, .float .f32 s.la] 67))

  have C := Cells.made ((w.alloc (.cells (bvs s st (.slice a n cap)).toArray 69)).alloc (.cells #[.float .f32 s.so, .float .f32 s.fl, .float .f32 s.es, .float .f32 s.ef, .float .f32 s.pt, .float .f32 s.la] 67)) [.func (.func 125) #[] #[.pointer (some ⟨w.heap.size + 1, 0, none⟩)]] 140
  rw [show ((w.alloc (.cells (bvs s st (.slice a n cap)).toArray 69)).alloc (.cells #[.float .f32 s.so, .float .f32 s.fl, .float .f32 s.es, .float .f32 s.ef, .float .f32 s.pt, .float .f32 s.la] 67)).heap.size = w.heap.size + 1 + 1 from by simp] at C
  have K := Lib.hid (Clo.mk C (D.al (.cells #[.func (.func 125) #[] #[.pointer (some ⟨w.heap.size + 1, 0, none⟩)]] 140)))
  have A := Lib.hid (A.al (.cells #[.func (.func 125) #[] #[.pointer (some ⟨w.heap.size + 1, 0, none⟩)]] 140))
  have Bw := Lib.hid (below_step Bw (below_al1 _ (.cells #[.func (.func 125) #[] #[.pointer (some ⟨w.heap.size + 1, 0, none⟩)]] 140)))
  clear C D
  have c0 := A.out.at 0 rfl
  have c1 := A.out.at 1 rfl
  have c2 := A.out.at 2 rfl
  have c3 := A.out.at 3 rfl
  have c4 := A.out.at 4 rfl
  have c5 := A.out.at 5 rfl
  have c6 := A.out.at 6 rfl
  have c7 := A.out.at 7 rfl
  go_wp2_with fail
  refine (implVStuff_any s _).mono ?_
  rw [HS.out]
  rintro _ w3 ⟨rfl, hb⟩
  have Bw := Lib.hid (below_step Bw.out hb)
  have A := Lib.hid (A.out.kept hb)
  have K := Lib.hid (K.out.kept hb)
  clear hb
  have c0 := A.out.at 0 rfl
  have c1 := A.out.at 1 rfl
  have c2 := A.out.at 2 rfl
  have c3 := A.out.at 3 rfl
  have c4 := A.out.at 4 rfl
  have c5 := A.out.at 5 rfl
  have c6 := A.out.at 6 rfl
  have c7 := A.out.at 7 rfl
  go_wp2_with fail
  refine (implPos_any st _).mono ?_
  rw [HP.out]
  rintro e w4 ⟨rfl, n2, rfl⟩
  go_wp2
  go_ret
  exact ⟨ret_b V.out, (by repeat (first | exact Bw.out | exact Below.refl _ _ | refine Below.setCell ?_ (by first | exact Nat.le_refl _ | (simp; done) | (simp; omega) | omega) _ | refine below_drewN ?_ _ | refine Below.alloc ?_ (by first | exact Nat.le_refl _ | (simp; done) | (simp; omega) | omega) _))⟩

set_option maxRecDepth 10000 in
set_option maxHeartbeats 1600000 in
theorem implVBar_ok (s : SF) (st : Nat) (v : Value) (zs : List Nat) (w : World) (h : FRow w v zs) (hS : vStuff s = true) (hP : pos st = true) (h1 : 1 ≤ zs.length) (h2 : zs.length ≤ 48) : Calls Tryd.prog 80 #[.agg #[.float .f32 s.so, .float .f32 s.fl, .float .f32 s.es, .float .f32 s.ef, .float .f32 s.pt, .float .f32 s.la, .float .f32 st, v]] w (BolB (vBar s st zs) w) := by
  have V := Lib.hid (show vBar s st zs = zs.all (heatOk s) by unfold vBar; rw [hS, hP]; simp [h1, h2])
  have HS := Lib.hid hS
  clear hS
  have HP := Lib.hid hP
  clear hP
  have R := Lib.hid (fun w1 (hb : Below w.heap.size w w1) => h.below hb)
  obtain ⟨a, cap, rfl⟩ := h.shape
  clear h
  have A := Lib.hid (Cells.made w (bvs s st (.slice a zs.length cap)) 69)
  have Bw := Lib.hid (below_al1 w (.cells (bvs s st (.slice a zs.length cap)).toArray 69))
  generalize hvb : vBar s st zs = bb at *
  clear hvb
  generalize hn : zs.length = n at *
  clear hn
  have f1 : decide ((1 : Int) ≤ n) = true := by simp; omega
  have f2 : decide ((n : Int) ≤ 48) = true := by simp; omega
  clear h1 h2
  go_enter Tryd.func80, Tryd.ntmps80
  go_wp2_with fail
  refine (warmIn_any s _).mono ?_
  rintro e w1 ⟨rfl, rfl⟩
  have D := Cells.made (w.alloc (.cells (bvs s st (.slice a n cap)).toArray 69)) s.vs 67
  rw [show (w.alloc (.cells (bvs s st (.slice a n cap)).toArray 69)).heap.size = w.heap.size + 1 from by simp] at D
  have A := A.out.al (.cells #[.float .f32 s.so, .float .f32 s.fl, .float .f32 s.es, .float .f32 s.ef, .float .f32 s.pt, .float .f32 s.la] 67)
  have Bw := below_step Bw.out (below_al1 _ (.cells #[.float .f32 s.so, .float .f32 s.fl, .float .f32 s.es, .float .f32 s.ef, .float .f32 s.pt, .float .f32 s.la] 67))

  have C := Cells.made ((w.alloc (.cells (bvs s st (.slice a n cap)).toArray 69)).alloc (.cells #[.float .f32 s.so, .float .f32 s.fl, .float .f32 s.es, .float .f32 s.ef, .float .f32 s.pt, .float .f32 s.la] 67)) [.func (.func 125) #[] #[.pointer (some ⟨w.heap.size + 1, 0, none⟩)]] 140
  rw [show ((w.alloc (.cells (bvs s st (.slice a n cap)).toArray 69)).alloc (.cells #[.float .f32 s.so, .float .f32 s.fl, .float .f32 s.es, .float .f32 s.ef, .float .f32 s.pt, .float .f32 s.la] 67)).heap.size = w.heap.size + 1 + 1 from by simp] at C
  have K := Lib.hid (Clo.mk C (D.al (.cells #[.func (.func 125) #[] #[.pointer (some ⟨w.heap.size + 1, 0, none⟩)]] 140)))
  have A := Lib.hid (A.al (.cells #[.func (.func 125) #[] #[.pointer (some ⟨w.heap.size + 1, 0, none⟩)]] 140))
  have Bw := Lib.hid (below_step Bw (below_al1 _ (.cells #[.func (.func 125) #[] #[.pointer (some ⟨w.heap.size + 1, 0, none⟩)]] 140)))
  clear C D
  have c0 := A.out.at 0 rfl
  have c1 := A.out.at 1 rfl
  have c2 := A.out.at 2 rfl
  have c3 := A.out.at 3 rfl
  have c4 := A.out.at 4 rfl
  have c5 := A.out.at 5 rfl
  have c6 := A.out.at 6 rfl
  have c7 := A.out.at 7 rfl
  go_wp2_with fail
  refine (implVStuff_any s _).mono ?_
  rw [HS.out]
  rintro _ w3 ⟨rfl, hb⟩
  have Bw := Lib.hid (below_step Bw.out hb)
  have A := Lib.hid (A.out.kept hb)
  have K := Lib.hid (K.out.kept hb)
  clear hb
  have c0 := A.out.at 0 rfl
  have c1 := A.out.at 1 rfl
  have c2 := A.out.at 2 rfl
  have c3 := A.out.at 3 rfl
  have c4 := A.out.at 4 rfl
  have c5 := A.out.at 5 rfl
  have c6 := A.out.at 6 rfl
  have c7 := A.out.at 7 rfl
  go_wp2_with fail
  refine (implPos_any st _).mono ?_
  rw [HP.out]
  rintro e w4 ⟨rfl, n2, rfl⟩
  go_wp2_with fail
  refine (allHeat_any s _ zs _ _ _ K.out.drewN (R.out _ (below_drewN Bw.out n2))).mono ?_
  rintro e w5 ⟨rfl, hb⟩
  have Bw := Lib.hid (below_step (below_drewN Bw.out n2) hb)
  clear hb
  go_wp2
  go_ret
  exact ⟨ret_b V.out, (by repeat (first | exact Bw.out | exact Below.refl _ _ | refine Below.setCell ?_ (by first | exact Nat.le_refl _ | (simp; done) | (simp; omega) | omega) _ | refine below_drewN ?_ _ | refine Below.alloc ?_ (by first | exact Nat.le_refl _ | (simp; done) | (simp; omega) | omega) _))⟩

theorem implVBar_any (s : SF) (st : Nat) (v : Value) (zs : List Nat) (w : World) (h : FRow w v zs) : Calls Tryd.prog 80 #[.agg #[.float .f32 s.so, .float .f32 s.fl, .float .f32 s.es, .float .f32 s.ef, .float .f32 s.pt, .float .f32 s.la, .float .f32 st, v]] w (BolB (vBar s st zs) w) := by
  cases hS : vStuff s
  · exact implVBar_n1 s st v zs w h hS
  · cases hP : pos st
    · exact implVBar_n2 s st v zs w h hS hP
    · by_cases h1 : zs.length < 1
      · exact implVBar_n3 s st v zs w h hS hP h1
      · by_cases h2 : 48 < zs.length
        · exact implVBar_n4 s st v zs w h hS hP h2
        · exact implVBar_ok s st v zs w h hS hP (by omega) (by omega)

end Go.Proofs.YthedpbdeahieaaaDoor
