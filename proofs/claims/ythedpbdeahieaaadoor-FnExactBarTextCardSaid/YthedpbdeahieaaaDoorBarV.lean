/- Whether a bar is valid: the specification's side. -/
import Derived.Test.YthedpbdeahieaaaDoorBarC
import Derived.Test.YthedpbdeahieaaaDoorHeatE
import Derived.Test.YthedpbdeahieaaaDoorLooseG
namespace Go.Proofs.YthedpbdeahieaaaDoor
open Go.RowKit
set_option linter.unusedVariables false

/-- a heat that a bar may have -/
def heatOk (s : SF) (y : Nat) : Bool := fin .f32 y && fin .f32 (warmF s y)
def vBar (s : SF) (st : Nat) (zs : List Nat) : Bool := vStuff s && pos st && decide (1 ≤ zs.length) && decide (zs.length ≤ 48) && zs.all (heatOk s)
def hBar (s : SF) (st : Nat) (zs : List Nat) : Bool := vStuff s && pos st && decide (1 ≤ zs.length) && decide (zs.length ≤ 48)
theorem vBar_no {s : SF} {st : Nat} {zs : List Nat} (h : hBar s st zs = false) : vBar s st zs = false := by
  have e : vBar s st zs = (hBar s st zs && zs.all (heatOk s)) := rfl
  rw [e, h]; rfl
theorem vBar_at {s : SF} {st : Nat} {zs : List Nat} {k : Nat} (hk : k < zs.length) (h : heatOk s (zs.getD k 0) = false) : vBar s st zs = false := by
  have : zs.all (heatOk s) = false := by
    rw [List.all_eq_false]
    exact ⟨zs.getD k 0, by simp [List.getD_eq_getElem?_getD, hk], by rw [h]; decide⟩
  unfold vBar; rw [this]; simp
theorem vBar_yes {s : SF} {st : Nat} {zs : List Nat} (hb : hBar s st zs = true) (h : ∀ j, j < zs.length → heatOk s (zs.getD j 0) = true) : vBar s st zs = true := by
  have : zs.all (heatOk s) = true := by
    rw [List.all_eq_true]
    intro x hx
    obtain ⟨i, hi, rfl⟩ := List.mem_iff_getElem.1 hx
    have := h i hi
    simpa [List.getD_eq_getElem?_getD, hi] using this
  have e : vBar s st zs = (hBar s st zs && zs.all (heatOk s)) := rfl
  rw [e, hb, this]; rfl
def hAt (s : SF) (zs : List Nat) (k : Nat) : Bool := heatOk s (zs.getD k 0)
theorem hOk0 {s : SF} {y : Nat} (h : fin .f32 y = false) : heatOk s y = false := by unfold heatOk; rw [h]; rfl
theorem hOk1 {s : SF} {y : Nat} (h : fin .f32 (warmF s y) = false) : heatOk s y = false := by unfold heatOk; rw [h]; simp
theorem hOk2 {s : SF} {y : Nat} (h : fin .f32 y = true) (h' : fin .f32 (warmF s y) = true) : heatOk s y = true := by unfold heatOk; rw [h, h']; rfl
theorem fin_of_cn {r S : Nat} (h : cn .f32 r = S) : fin .f32 r = fin .f32 S := by rw [← h, fin_cn]

set_option maxRecDepth 10000 in
set_option maxHeartbeats 1600000 in
theorem specBar_n1 (s : SF) (st : Nat) (v : Value) (zs : List Nat) (p : Nat) (w : World) (A0 : Cells w p (bvs s st v)) (h : FRow w v zs) (hS : vStuff s = false) : Calls Tryd.prog 77 #[.pointer (some ⟨p, 0, none⟩)] w (Bol (vBar s st zs) w) := by
  have A := Lib.hid A0
  have AS := Lib.hid (bvs_stuff A0)
  clear A0
  have V := Lib.hid (vBar_no (s := s) (st := st) (zs := zs) (by unfold hBar; simp [hS]))
  have HS := Lib.hid hS
  clear hS
  obtain ⟨a, cap, rfl⟩ := h.shape
  clear h
  have c0 := A.out.at 0 rfl
  have c1 := A.out.at 1 rfl
  have c2 := A.out.at 2 rfl
  have c3 := A.out.at 3 rfl
  have c4 := A.out.at 4 rfl
  have c5 := A.out.at 5 rfl
  have c6 := A.out.at 6 rfl
  have c7 := A.out.at 7 rfl
  go_enter Tryd.func77, Tryd.ntmps77
  go_wp2_with fail
  refine (specStuff_any s _ _ AS.out).mono ?_
  rw [HS.out]
  rintro e w1 ⟨rfl, n1, rfl⟩
  have c0 := A.out.at 0 rfl; have c1 := A.out.at 1 rfl; have c2 := A.out.at 2 rfl; have c3 := A.out.at 3 rfl; have c4 := A.out.at 4 rfl; have c5 := A.out.at 5 rfl; have c6 := A.out.at 6 rfl; have c7 := A.out.at 7 rfl
  go_wp2
  go_ret
  exact ⟨ret_b V.out, _, rfl⟩

set_option maxRecDepth 10000 in
set_option maxHeartbeats 1600000 in
theorem specBar_n2 (s : SF) (st : Nat) (v : Value) (zs : List Nat) (p : Nat) (w : World) (A0 : Cells w p (bvs s st v)) (h : FRow w v zs) (hS : vStuff s = true) (hP : pos st = false) : Calls Tryd.prog 77 #[.pointer (some ⟨p, 0, none⟩)] w (Bol (vBar s st zs) w) := by
  have A := Lib.hid A0
  have AS := Lib.hid (bvs_stuff A0)
  clear A0
  have V := Lib.hid (vBar_no (s := s) (st := st) (zs := zs) (by unfold hBar; simp [hS, hP]))
  have HS := Lib.hid hS
  clear hS
  have HP := Lib.hid hP
  clear hP
  obtain ⟨a, cap, rfl⟩ := h.shape
  clear h
  have c0 := A.out.at 0 rfl
  have c1 := A.out.at 1 rfl
  have c2 := A.out.at 2 rfl
  have c3 := A.out.at 3 rfl
  have c4 := A.out.at 4 rfl
  have c5 := A.out.at 5 rfl
  have c6 := A.out.at 6 rfl
  have c7 := A.out.at 7 rfl
  go_enter Tryd.func77, Tryd.ntmps77
  go_wp2_with fail
  refine (specStuff_any s _ _ AS.out).mono ?_
  rw [HS.out]
  rintro e w1 ⟨rfl, n1, rfl⟩
  have c0 := A.out.at 0 rfl; have c1 := A.out.at 1 rfl; have c2 := A.out.at 2 rfl; have c3 := A.out.at 3 rfl; have c4 := A.out.at 4 rfl; have c5 := A.out.at 5 rfl; have c6 := A.out.at 6 rfl; have c7 := A.out.at 7 rfl
  go_wp2_with fail
  refine (specAbove_any st _).mono ?_
  rw [HP.out]
  rintro e w2 ⟨rfl, n2, rfl⟩
  go_wp2
  go_ret
  exact ⟨ret_b V.out, _, rfl⟩

set_option maxRecDepth 10000 in
set_option maxHeartbeats 1600000 in
theorem specBar_n3 (s : SF) (st : Nat) (v : Value) (zs : List Nat) (p : Nat) (w : World) (A0 : Cells w p (bvs s st v)) (h : FRow w v zs) (hS : vStuff s = true) (hP : pos st = true) (hn : zs.length < 1) : Calls Tryd.prog 77 #[.pointer (some ⟨p, 0, none⟩)] w (Bol (vBar s st zs) w) := by
  have A := Lib.hid A0
  have AS := Lib.hid (bvs_stuff A0)
  clear A0
  have V := Lib.hid (vBar_no (s := s) (st := st) (zs := zs) (by unfold hBar; simp [hS, hP]; omega))
  have HS := Lib.hid hS
  have HP := Lib.hid hP
  clear hS hP
  obtain ⟨a, cap, rfl⟩ := h.shape
  clear h
  have c0 := A.out.at 0 rfl
  have c1 := A.out.at 1 rfl
  have c2 := A.out.at 2 rfl
  have c3 := A.out.at 3 rfl
  have c4 := A.out.at 4 rfl
  have c5 := A.out.at 5 rfl
  have c6 := A.out.at 6 rfl
  have c7 := A.out.at 7 rfl
  generalize vBar s st zs = bb at *
  generalize zs.length = n at *
  have f1 : decide ((n : Int) < 1) = true := by simp; omega
  clear hn
  go_enter Tryd.func77, Tryd.ntmps77
  go_wp2_with fail
  refine (specStuff_any s _ _ AS.out).mono ?_
  rw [HS.out]
  rintro e w1 ⟨rfl, n1, rfl⟩
  have c0 := A.out.at 0 rfl; have c1 := A.out.at 1 rfl; have c2 := A.out.at 2 rfl; have c3 := A.out.at 3 rfl; have c4 := A.out.at 4 rfl; have c5 := A.out.at 5 rfl; have c6 := A.out.at 6 rfl; have c7 := A.out.at 7 rfl
  go_wp2_with fail
  refine (specAbove_any st _).mono ?_
  rw [HP.out]
  rintro e w2 ⟨rfl, n2, rfl⟩
  go_wp2
  go_ret
  exact ⟨ret_b V.out, _, rfl⟩

set_option maxRecDepth 10000 in
set_option maxHeartbeats 1600000 in
theorem specBar_n4 (s : SF) (st : Nat) (v : Value) (zs : List Nat) (p : Nat) (w : World) (A0 : Cells w p (bvs s st v)) (h : FRow w v zs) (hS : vStuff s = true) (hP : pos st = true) (hn : 48 < zs.length) : Calls Tryd.prog 77 #[.pointer (some ⟨p, 0, none⟩)] w (Bol (vBar s st zs) w) := by
  have A := Lib.hid A0
  have AS := Lib.hid (bvs_stuff A0)
  clear A0
  have V := Lib.hid (vBar_no (s := s) (st := st) (zs := zs) (by unfold hBar; simp [hS, hP]; omega))
  have HS := Lib.hid hS
  have HP := Lib.hid hP
  clear hS hP
  obtain ⟨a, cap, rfl⟩ := h.shape
  clear h
  have c0 := A.out.at 0 rfl
  have c1 := A.out.at 1 rfl
  have c2 := A.out.at 2 rfl
  have c3 := A.out.at 3 rfl
  have c4 := A.out.at 4 rfl
  have c5 := A.out.at 5 rfl
  have c6 := A.out.at 6 rfl
  have c7 := A.out.at 7 rfl
  generalize vBar s st zs = bb at *
  generalize zs.length = n at *
  have f1 : decide ((n : Int) < 1) = false := by simp; omega
  have f2 : decide ((48 : Int) < n) = true := by simp; omega
  clear hn
  go_enter Tryd.func77, Tryd.ntmps77
  go_wp2_with fail
  refine (specStuff_any s _ _ AS.out).mono ?_
  rw [HS.out]
  rintro e w1 ⟨rfl, n1, rfl⟩
  have c0 := A.out.at 0 rfl; have c1 := A.out.at 1 rfl; have c2 := A.out.at 2 rfl; have c3 := A.out.at 3 rfl; have c4 := A.out.at 4 rfl; have c5 := A.out.at 5 rfl; have c6 := A.out.at 6 rfl; have c7 := A.out.at 7 rfl
  go_wp2_with fail
  refine (specAbove_any st _).mono ?_
  rw [HP.out]
  rintro e w2 ⟨rfl, n2, rfl⟩
  go_wp2
  go_ret
  exact ⟨ret_b V.out, _, rfl⟩

set_option maxRecDepth 10000 in
set_option maxHeartbeats 1600000 in
theorem specBar_ok (s : SF) (st : Nat) (v : Value) (zs : List Nat) (p : Nat) (w : World) (A0 : Cells w p (bvs s st v)) (h : FRow w v zs) (hb : hBar s st zs = true) : Calls Tryd.prog 77 #[.pointer (some ⟨p, 0, none⟩)] w (Bol (vBar s st zs) w) := by
  have A := Lib.hid A0
  have AS := Lib.hid (bvs_stuff A0)
  clear A0
  have VN := Lib.hid (fun k (hk : k < zs.length) (h : heatOk s (zs.getD k 0) = false) => vBar_at (st := st) hk h)
  have VY := Lib.hid (fun h => vBar_yes hb h)
  obtain ⟨⟨⟨g0, g1⟩, g2⟩, g3⟩ : ((vStuff s = true ∧ pos st = true) ∧ 1 ≤ zs.length) ∧ zs.length ≤ 48 := by simpa [hBar] using hb
  have HS := Lib.hid g0
  have HP := Lib.hid g1
  obtain ⟨b0, o0, k0, rfl, h0⟩ := h.cells g2
  clear h hb g0 g1
  have c0 := A.out.at 0 rfl
  have c1 := A.out.at 1 rfl
  have c2 := A.out.at 2 rfl
  have c3 := A.out.at 3 rfl
  have c4 := A.out.at 4 rfl
  have c5 := A.out.at 5 rfl
  have c6 := A.out.at 6 rfl
  have c7 := A.out.at 7 rfl
  generalize hv : vBar s st zs = bb at *
  clear hv
  have HG : Hid (∀ k, zs.getD k 0 = zs.getD k 0) := Lib.hid (fun k => rfl)
  generalize hn : zs.length = n at *
  clear hn
  have f1 : decide ((n : Int) < 1) = false := by simp; omega
  have f2 : decide ((48 : Int) < n) = false := by simp; omega
  have G := Lib.hid g3
  clear g2 g3
  go_enter Tryd.func77, Tryd.ntmps77
  go_wp2_with fail
  refine (specStuff_any s _ _ AS.out).mono ?_
  rw [HS.out]
  rintro e w1 ⟨rfl, n1, rfl⟩
  have c0 := A.out.at 0 rfl; have c1 := A.out.at 1 rfl; have c2 := A.out.at 2 rfl; have c3 := A.out.at 3 rfl; have c4 := A.out.at 4 rfl; have c5 := A.out.at 5 rfl; have c6 := A.out.at 6 rfl; have c7 := A.out.at 7 rfl
  go_wp2_with fail
  refine (specAbove_any st _).mono ?_
  rw [HP.out]
  rintro e w2 ⟨rfl, n2, rfl⟩
  go_wp2
  go_loopw [4, 36] (fun _ i wr => ∃ k q : Nat, k ≤ n ∧ i = .int .i64 k ∧ Hid (∀ j, j < k → hAt s zs j = true) ∧ wr = w.drewN q) (fun _ i _ => n - (intOf i).toNat)
  case atStart => exact ⟨0, _, Nat.zero_le _, rfl, Lib.hid (fun j hj => absurd hj (Nat.not_lt_zero _)), rfl⟩
  case round =>
    obtain ⟨k, q, hk, rfl, hall, rfl⟩ := hrel
    by_cases hlt : k < n
    · have z0 := h0 k hlt
      have hG := G.out
      have hi : (0 : Int) ≤ (k : Int) := by omega
      have hi' : (k : Int) < (n : Int) := by omega
      have VNk := Lib.hid (VN.out k hlt)
      clear h0
      have OK : Hid (zs.getD k 0 = zs.getD k 0) := Lib.hid rfl
      have HO : Hid (∀ y, zs.getD k 0 = y → heatOk s y = true → hAt s zs k = true) := Lib.hid (fun y e h => by unfold hAt; rw [e]; exact h)
      generalize hy : zs.getD k 0 = y at *
      cases B : fin .f32 y
      · have V := Lib.hid (VNk.out (hOk0 B))
        have HB := Lib.hid B
        clear B hy
        go_wp2
        refine wp_region_loose (SgW (warmF s y)) (by kernel_rfl) (by kernel_rfl) ?_
        repeat ((with_reducible refine wpLoose_cons ?_); (first | ((with_reducible refine wpLoose_skip ?_ ?_); (focus (go_simp; done)); intro K hK; go_simp; refine hK _ ?_; clear hK K) | (refine wpLoose_farithG ?_ _ _ _ _ _ rfl rfl _ _ _ rfl rfl ?_; (focus (go_simp; done)); intro _ _) | (refine wpLoose_valG ?_ ?_ (fun w1 hw1 => ?_) (fun K hK => ?_); (focus (go_simp; done)); rotate_left; (focus (obtain ⟨nq, rfl⟩ := hw1; go_simp; first | done | rfl)); go_simp; refine hK _ ?_; clear hK K) | fail))
        refine wpLoose_callG ?_ 99 #[.float .f32 y] (fun w1 => ?_) (fun w1 hw1 => ?_) (fun v1 hv1 => ?_)
        · go_simp
        · go_simp
        · obtain ⟨nq, rfl⟩ := hw1
          refine (specFinite_any y _).mono ?_
          rintro e w2 ⟨rfl, n9, rfl⟩
          exact ⟨_, rfl, rfl, n9, rfl⟩
        obtain rfl : v1 = .bool false := by rw [show v1 = .bool (fin .f32 y) from hv1, HB.out]
        repeat ((with_reducible refine wpLoose_cons ?_); (first | ((with_reducible refine wpLoose_skip ?_ ?_); (focus (go_simp; done)); intro K hK; go_simp; refine hK _ ?_; clear hK K) | (refine wpLoose_farithG ?_ _ _ _ _ _ rfl rfl _ _ _ rfl rfl ?_; (focus (go_simp; done)); intro _ _) | (refine wpLoose_valG ?_ ?_ (fun w1 hw1 => ?_) (fun K hK => ?_); (focus (go_simp; done)); rotate_left; (focus (obtain ⟨nq, rfl⟩ := hw1; go_simp; first | done | rfl)); go_simp; refine hK _ ?_; clear hK K) | fail))
        (refine wpLoose_nil ?_; rintro _ ⟨nq, rfl⟩)
        go_wp2
        go_ret
        exact ⟨ret_b V.out, q + nq, World.drewN_drewN _ _ _⟩
      · cases B2 : fin .f32 (warmF s y)
        · have HB := Lib.hid B
          have HB2 := Lib.hid B2
          have V := Lib.hid (VNk.out (hOk1 B2))
          clear B B2 hy
          go_wp2
          refine wp_region_loose (SgW (warmF s y)) (by kernel_rfl) (by kernel_rfl) ?_
          repeat ((with_reducible refine wpLoose_cons ?_); (first | ((with_reducible refine wpLoose_skip ?_ ?_); (focus (go_simp; done)); intro K hK; go_simp; refine hK _ ?_; clear hK K) | (refine wpLoose_farithG ?_ _ _ _ _ _ rfl rfl _ _ _ rfl rfl ?_; (focus (go_simp; done)); intro _ _) | (refine wpLoose_valG ?_ ?_ (fun w1 hw1 => ?_) (fun K hK => ?_); (focus (go_simp; done)); rotate_left; (focus (obtain ⟨nq, rfl⟩ := hw1; go_simp; first | done | rfl)); go_simp; refine hK _ ?_; clear hK K) | fail))
          refine wpLoose_callG ?_ 99 #[.float .f32 y] (fun w1 => ?_) (fun w1 hw1 => ?_) (fun v1 hv1 => ?_)
          · go_simp
          · go_simp
          · obtain ⟨nq, rfl⟩ := hw1
            refine (specFinite_any y _).mono ?_
            rintro e w2 ⟨rfl, n9, rfl⟩
            exact ⟨_, rfl, rfl, n9, rfl⟩
          obtain rfl : v1 = .bool true := by rw [show v1 = .bool (fin .f32 y) from hv1, HB.out]
          repeat ((with_reducible refine wpLoose_cons ?_); (first | ((with_reducible refine wpLoose_skip ?_ ?_); (focus (go_simp; done)); intro K hK; go_simp; refine hK _ ?_; clear hK K) | (refine wpLoose_farithG ?_ _ _ _ _ _ rfl rfl _ _ _ rfl rfl ?_; (focus (go_simp; done)); intro _ _) | (refine wpLoose_valG ?_ ?_ (fun w1 hw1 => ?_) (fun K hK => ?_); (focus (go_simp; done)); rotate_left; (focus (obtain ⟨nq, rfl⟩ := hw1; go_simp; first | done | rfl)); go_simp; refine hK _ ?_; clear hK K) | fail))
          refine wpLoose_callG ?_ 104 #[.pointer (some ⟨p, 0, none⟩), .float .f32 y] (fun w1 => ?_) (fun w1 hw1 => ?_) (fun v2 hv2 => ?_)
          · go_simp
          · go_simp
          · obtain ⟨nq, rfl⟩ := hw1
            refine (specWarmV_any s y p _ (AS.out.drewN).drewN).mono ?_
            rintro e w2 ⟨r, hr, rfl, n9, rfl⟩
            exact ⟨_, rfl, ⟨r, hr, rfl⟩, n9, rfl⟩
          obtain ⟨r, hr, rfl⟩ := hv2
          have HR := Lib.hid (fin_of_cn hr)
          clear hr
          repeat ((with_reducible refine wpLoose_cons ?_); (first | ((with_reducible refine wpLoose_skip ?_ ?_); (focus (go_simp; done)); intro K hK; go_simp; refine hK _ ?_; clear hK K) | (refine wpLoose_farithG ?_ _ _ _ _ _ rfl rfl _ _ _ rfl rfl ?_; (focus (go_simp; done)); intro _ _) | (refine wpLoose_valG ?_ ?_ (fun w1 hw1 => ?_) (fun K hK => ?_); (focus (go_simp; done)); rotate_left; (focus (obtain ⟨nq, rfl⟩ := hw1; go_simp; first | done | rfl)); go_simp; refine hK _ ?_; clear hK K) | fail))
          refine wpLoose_callG ?_ 99 #[.float .f32 r] (fun w1 => ?_) (fun w1 hw1 => ?_) (fun v1 hv1 => ?_)
          · go_simp
          · go_simp
          · obtain ⟨nq, rfl⟩ := hw1
            refine (specFinite_any r _).mono ?_
            rintro e w2 ⟨rfl, n9, rfl⟩
            exact ⟨_, rfl, rfl, n9, rfl⟩
          obtain rfl : v1 = .bool false := by rw [show v1 = .bool (fin .f32 r) from hv1, HR.out, HB2.out]
          repeat ((with_reducible refine wpLoose_cons ?_); (first | ((with_reducible refine wpLoose_skip ?_ ?_); (focus (go_simp; done)); intro K hK; go_simp; refine hK _ ?_; clear hK K) | (refine wpLoose_farithG ?_ _ _ _ _ _ rfl rfl _ _ _ rfl rfl ?_; (focus (go_simp; done)); intro _ _) | (refine wpLoose_valG ?_ ?_ (fun w1 hw1 => ?_) (fun K hK => ?_); (focus (go_simp; done)); rotate_left; (focus (obtain ⟨nq, rfl⟩ := hw1; go_simp; first | done | rfl)); go_simp; refine hK _ ?_; clear hK K) | fail))
          (refine wpLoose_nil ?_; rintro _ ⟨nq, rfl⟩)
          go_wp2
          go_ret
          exact ⟨ret_b V.out, q + nq, World.drewN_drewN _ _ _⟩
        · have HB := Lib.hid B
          have HB2 := Lib.hid B2
          have V := Lib.hid (HO.out _ rfl (hOk2 B B2))
          clear B B2 hy
          go_wp2
          refine wp_region_loose (SgW (warmF s y)) (by kernel_rfl) (by kernel_rfl) ?_
          repeat ((with_reducible refine wpLoose_cons ?_); (first | ((with_reducible refine wpLoose_skip ?_ ?_); (focus (go_simp; done)); intro K hK; go_simp; refine hK _ ?_; clear hK K) | (refine wpLoose_farithG ?_ _ _ _ _ _ rfl rfl _ _ _ rfl rfl ?_; (focus (go_simp; done)); intro _ _) | (refine wpLoose_valG ?_ ?_ (fun w1 hw1 => ?_) (fun K hK => ?_); (focus (go_simp; done)); rotate_left; (focus (obtain ⟨nq, rfl⟩ := hw1; go_simp; first | done | rfl)); go_simp; refine hK _ ?_; clear hK K) | fail))
          refine wpLoose_callG ?_ 99 #[.float .f32 y] (fun w1 => ?_) (fun w1 hw1 => ?_) (fun v1 hv1 => ?_)
          · go_simp
          · go_simp
          · obtain ⟨nq, rfl⟩ := hw1
            refine (specFinite_any y _).mono ?_
            rintro e w2 ⟨rfl, n9, rfl⟩
            exact ⟨_, rfl, rfl, n9, rfl⟩
          obtain rfl : v1 = .bool true := by rw [show v1 = .bool (fin .f32 y) from hv1, HB.out]
          repeat ((with_reducible refine wpLoose_cons ?_); (first | ((with_reducible refine wpLoose_skip ?_ ?_); (focus (go_simp; done)); intro K hK; go_simp; refine hK _ ?_; clear hK K) | (refine wpLoose_farithG ?_ _ _ _ _ _ rfl rfl _ _ _ rfl rfl ?_; (focus (go_simp; done)); intro _ _) | (refine wpLoose_valG ?_ ?_ (fun w1 hw1 => ?_) (fun K hK => ?_); (focus (go_simp; done)); rotate_left; (focus (obtain ⟨nq, rfl⟩ := hw1; go_simp; first | done | rfl)); go_simp; refine hK _ ?_; clear hK K) | fail))
          refine wpLoose_callG ?_ 104 #[.pointer (some ⟨p, 0, none⟩), .float .f32 y] (fun w1 => ?_) (fun w1 hw1 => ?_) (fun v2 hv2 => ?_)
          · go_simp
          · go_simp
          · obtain ⟨nq, rfl⟩ := hw1
            refine (specWarmV_any s y p _ (AS.out.drewN).drewN).mono ?_
            rintro e w2 ⟨r, hr, rfl, n9, rfl⟩
            exact ⟨_, rfl, ⟨r, hr, rfl⟩, n9, rfl⟩
          obtain ⟨r, hr, rfl⟩ := hv2
          have HR := Lib.hid (fin_of_cn hr)
          clear hr
          repeat ((with_reducible refine wpLoose_cons ?_); (first | ((with_reducible refine wpLoose_skip ?_ ?_); (focus (go_simp; done)); intro K hK; go_simp; refine hK _ ?_; clear hK K) | (refine wpLoose_farithG ?_ _ _ _ _ _ rfl rfl _ _ _ rfl rfl ?_; (focus (go_simp; done)); intro _ _) | (refine wpLoose_valG ?_ ?_ (fun w1 hw1 => ?_) (fun K hK => ?_); (focus (go_simp; done)); rotate_left; (focus (obtain ⟨nq, rfl⟩ := hw1; go_simp; first | done | rfl)); go_simp; refine hK _ ?_; clear hK K) | fail))
          refine wpLoose_callG ?_ 99 #[.float .f32 r] (fun w1 => ?_) (fun w1 hw1 => ?_) (fun v1 hv1 => ?_)
          · go_simp
          · go_simp
          · obtain ⟨nq, rfl⟩ := hw1
            refine (specFinite_any r _).mono ?_
            rintro e w2 ⟨rfl, n9, rfl⟩
            exact ⟨_, rfl, rfl, n9, rfl⟩
          obtain rfl : v1 = .bool true := by rw [show v1 = .bool (fin .f32 r) from hv1, HR.out, HB2.out]
          repeat ((with_reducible refine wpLoose_cons ?_); (first | ((with_reducible refine wpLoose_skip ?_ ?_); (focus (go_simp; done)); intro K hK; go_simp; refine hK _ ?_; clear hK K) | (refine wpLoose_farithG ?_ _ _ _ _ _ rfl rfl _ _ _ rfl rfl ?_; (focus (go_simp; done)); intro _ _) | (refine wpLoose_valG ?_ ?_ (fun w1 hw1 => ?_) (fun K hK => ?_); (focus (go_simp; done)); rotate_left; (focus (obtain ⟨nq, rfl⟩ := hw1; go_simp; first | done | rfl)); go_simp; refine hK _ ?_; clear hK K) | fail))
          (refine wpLoose_nil ?_; rintro _ ⟨nq, rfl⟩)
          go_wp2
          go_roundw
          case rel => exact ⟨k + 1, q + nq, by omega, by go_num, Lib.hid (fun j hj => by rcases Nat.lt_succ_iff_lt_or_eq.1 hj with h | h; exact hall.out j h; subst h; exact V.out), rfl⟩
          case measure => simp [intOf]; omega
    · have e := Lib.hid (show k = n by omega)
      clear h0
      go_wp2
      go_ret
      have := e.out
      subst this
      exact ⟨ret_b (VY.out hall.out), _, rfl⟩

theorem specBar_any (s : SF) (st : Nat) (v : Value) (zs : List Nat) (p : Nat) (w : World) (A : Cells w p (bvs s st v)) (h : FRow w v zs) : Calls Tryd.prog 77 #[.pointer (some ⟨p, 0, none⟩)] w (Bol (vBar s st zs) w) := by
  cases hS : vStuff s
  · exact specBar_n1 s st v zs p w A h hS
  · cases hP : pos st
    · exact specBar_n2 s st v zs p w A h hS hP
    · by_cases h1 : zs.length < 1
      · exact specBar_n3 s st v zs p w A h hS hP h1
      · by_cases h2 : 48 < zs.length
        · exact specBar_n4 s st v zs p w A h hS hP h2
        · exact specBar_ok s st v zs p w A h (by unfold hBar; simp [hS, hP]; omega)

end Go.Proofs.YthedpbdeahieaaaDoor
