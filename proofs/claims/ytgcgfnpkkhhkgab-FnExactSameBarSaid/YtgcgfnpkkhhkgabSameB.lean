/- Whether two bars are the same: both sides. -/
import Derived.Test.YtgcgfnpkkhhkgabSameSW
import Derived.Test.YtgcgfnpkkhhkgabSameL
import Derived.Test.YtgcgfnpkkhhkgabBarE
namespace Go.Proofs.Ytgcgfnpkkhhkgab
open Go.RowKit
set_option linter.unusedVariables false
def sameB (s t : SF) (st st' : Nat) (zs ys : List Nat) : Bool := sameS s t && sm st st' && smL zs ys
def SgSB (x0 x1 x2 : Bool) (f : FuncId) (_ : Array Value) (v : Value) : Prop := if f = 49 then v = .bool x0 else if f = 86 then v = .bool x1 else v = .bool x2

set_option maxRecDepth 20000 in
set_option maxHeartbeats 1600000 in
theorem specSameBV0 (s t : SF) (st st' : Nat) (v v' : Value) (zs ys : List Nat) (b d : Nat) (w : World) (A : Cells w b (bvs s st v)) (X : Cells w d (bvs t st' v')) (h : FRow w v zs) (h' : FRow w v' ys) (ws : s.wf) (wt : t.wf) (wst : (Lit.float .f32 st).wf = true) (wst' : (Lit.float .f32 st').wf = true) (hz : Wf zs) (hy : Wf ys) (h0 : sameS s t = false) : Calls Try.prog 72 #[.pointer (some ⟨b, 0, none⟩), .pointer (some ⟨d, 0, none⟩)] w (Bol (sameB s t st st' zs ys) w) := by
  have AS := Lib.hid (bvs_stuff A)
  have XS := Lib.hid (bvs_stuff X)
  have R := Lib.hid (And.intro h h')
  have HW := Lib.hid (And.intro ws (And.intro wt (And.intro wst (And.intro wst' (And.intro hz hy)))))
  have H0 := Lib.hid h0
  clear A X h h' ws wt wst wst' hz hy h0
  go_enter Try.func72, Try.ntmps72
  go_wp2
  refine wp_region_loose (SgSB (sameS s t) (sm st st') (smL zs ys)) (by kernel_rfl) (by kernel_rfl) ?_
  try simp only [List.append]
  repeat ((with_reducible refine wpLoose_cons ?_); (first | ((with_reducible refine wpLoose_skip ?_ ?_); (focus (go_simp; done)); intro K hK; go_simp; refine hK _ ?_; clear hK K) | (refine wpLoose_farithG ?_ _ _ _ _ _ rfl rfl _ _ _ rfl rfl ?_; (focus (go_simp; done)); intro _ _) | (refine wpLoose_valG ?_ ?_ (fun w1 hw1 => ?_) (fun K hK => ?_); (focus (go_simp; done)); rotate_left; (focus (obtain ⟨nq, rfl⟩ := hw1; go_simp; first | done | rfl)); go_simp; refine hK _ ?_; clear hK K) | fail))
  refine wpLoose_callG ?_ 49 #[.pointer (some ⟨b, 0, none⟩), .pointer (some ⟨d, 0, none⟩)] (fun w1 => ?_) (fun w1 hw1 => ?_) (fun v1 hv1 => ?_)
  · go_simp
  · go_simp
  · obtain ⟨nq, rfl⟩ := hw1
    refine (specSameV_any s t b d _ AS.out.drewN XS.out.drewN HW.out.1 HW.out.2.1).mono ?_
    rintro e w2 ⟨rfl, n, rfl⟩
    exact ⟨_, rfl, by simp [SgSB], n, rfl⟩
  obtain rfl : v1 = .bool false := by simpa [SgSB, H0.out] using hv1
  repeat ((with_reducible refine wpLoose_cons ?_); (first | ((with_reducible refine wpLoose_skip ?_ ?_); (focus (go_simp; done)); intro K hK; go_simp; refine hK _ ?_; clear hK K) | (refine wpLoose_farithG ?_ _ _ _ _ _ rfl rfl _ _ _ rfl rfl ?_; (focus (go_simp; done)); intro _ _) | (refine wpLoose_valG ?_ ?_ (fun w1 hw1 => ?_) (fun K hK => ?_); (focus (go_simp; done)); rotate_left; (focus (obtain ⟨nq, rfl⟩ := hw1; go_simp; first | done | rfl)); go_simp; refine hK _ ?_; clear hK K) | fail))
  (refine wpLoose_nil ?_; rintro _ ⟨nq, rfl⟩)
  go_wp2
  go_ret
  exact ⟨ret_b (by unfold sameB; rw [H0.out]; rfl), _, rfl⟩

set_option maxRecDepth 20000 in
set_option maxHeartbeats 1600000 in
theorem specSameBV1 (s t : SF) (st st' : Nat) (v v' : Value) (zs ys : List Nat) (b d : Nat) (w : World) (A : Cells w b (bvs s st v)) (X : Cells w d (bvs t st' v')) (h : FRow w v zs) (h' : FRow w v' ys) (ws : s.wf) (wt : t.wf) (wst : (Lit.float .f32 st).wf = true) (wst' : (Lit.float .f32 st').wf = true) (hz : Wf zs) (hy : Wf ys) (h0 : sameS s t = true) (h1 : sm st st' = false) : Calls Try.prog 72 #[.pointer (some ⟨b, 0, none⟩), .pointer (some ⟨d, 0, none⟩)] w (Bol (sameB s t st st' zs ys) w) := by
  have AS := Lib.hid (bvs_stuff A)
  have XS := Lib.hid (bvs_stuff X)
  have c6 := A.at 6 rfl; have x6 := X.at 6 rfl
  have R := Lib.hid (And.intro h h')
  have HW := Lib.hid (And.intro ws (And.intro wt (And.intro wst (And.intro wst' (And.intro hz hy)))))
  have H0 := Lib.hid h0
  have H1 := Lib.hid h1
  clear A X h h' ws wt wst wst' hz hy h0 h1
  go_enter Try.func72, Try.ntmps72
  go_wp2
  refine wp_region_loose (SgSB (sameS s t) (sm st st') (smL zs ys)) (by kernel_rfl) (by kernel_rfl) ?_
  try simp only [List.append]
  repeat ((with_reducible refine wpLoose_cons ?_); (first | ((with_reducible refine wpLoose_skip ?_ ?_); (focus (go_simp; done)); intro K hK; go_simp; refine hK _ ?_; clear hK K) | (refine wpLoose_farithG ?_ _ _ _ _ _ rfl rfl _ _ _ rfl rfl ?_; (focus (go_simp; done)); intro _ _) | (refine wpLoose_valG ?_ ?_ (fun w1 hw1 => ?_) (fun K hK => ?_); (focus (go_simp; done)); rotate_left; (focus (obtain ⟨nq, rfl⟩ := hw1; go_simp; first | done | rfl)); go_simp; refine hK _ ?_; clear hK K) | fail))
  refine wpLoose_callG ?_ 49 #[.pointer (some ⟨b, 0, none⟩), .pointer (some ⟨d, 0, none⟩)] (fun w1 => ?_) (fun w1 hw1 => ?_) (fun v1 hv1 => ?_)
  · go_simp
  · go_simp
  · obtain ⟨nq, rfl⟩ := hw1
    refine (specSameV_any s t b d _ AS.out.drewN XS.out.drewN HW.out.1 HW.out.2.1).mono ?_
    rintro e w2 ⟨rfl, n, rfl⟩
    exact ⟨_, rfl, by simp [SgSB], n, rfl⟩
  obtain rfl : v1 = .bool true := by simpa [SgSB, H0.out] using hv1
  repeat ((with_reducible refine wpLoose_cons ?_); (first | ((with_reducible refine wpLoose_skip ?_ ?_); (focus (go_simp; done)); intro K hK; go_simp; refine hK _ ?_; clear hK K) | (refine wpLoose_farithG ?_ _ _ _ _ _ rfl rfl _ _ _ rfl rfl ?_; (focus (go_simp; done)); intro _ _) | (refine wpLoose_valG ?_ ?_ (fun w1 hw1 => ?_) (fun K hK => ?_); (focus (go_simp; done)); rotate_left; (focus (obtain ⟨nq, rfl⟩ := hw1; go_simp; first | done | rfl)); go_simp; refine hK _ ?_; clear hK K) | fail))
  refine wpLoose_callG ?_ 86 #[.float .f32 st, .float .f32 st'] (fun w1 => ?_) (fun w1 hw1 => ?_) (fun v1 hv1 => ?_)
  · go_simp
  · go_simp
  · obtain ⟨nq, rfl⟩ := hw1
    refine (specSame_any _ _ _ HW.out.2.2.1 HW.out.2.2.2.1).mono ?_
    rintro e w2 ⟨rfl, rfl⟩
    exact ⟨_, rfl, by simp [SgSB], 0, rfl⟩
  obtain rfl : v1 = .bool false := by simpa [SgSB, H1.out] using hv1
  repeat ((with_reducible refine wpLoose_cons ?_); (first | ((with_reducible refine wpLoose_skip ?_ ?_); (focus (go_simp; done)); intro K hK; go_simp; refine hK _ ?_; clear hK K) | (refine wpLoose_farithG ?_ _ _ _ _ _ rfl rfl _ _ _ rfl rfl ?_; (focus (go_simp; done)); intro _ _) | (refine wpLoose_valG ?_ ?_ (fun w1 hw1 => ?_) (fun K hK => ?_); (focus (go_simp; done)); rotate_left; (focus (obtain ⟨nq, rfl⟩ := hw1; go_simp; first | done | rfl)); go_simp; refine hK _ ?_; clear hK K) | fail))
  (refine wpLoose_nil ?_; rintro _ ⟨nq, rfl⟩)
  go_wp2
  go_ret
  exact ⟨ret_b (by unfold sameB; rw [H0.out, H1.out]; rfl), _, rfl⟩

set_option maxRecDepth 20000 in
set_option maxHeartbeats 1600000 in
theorem specSameBV2 (s t : SF) (st st' : Nat) (v v' : Value) (zs ys : List Nat) (b d : Nat) (w : World) (A : Cells w b (bvs s st v)) (X : Cells w d (bvs t st' v')) (h : FRow w v zs) (h' : FRow w v' ys) (ws : s.wf) (wt : t.wf) (wst : (Lit.float .f32 st).wf = true) (wst' : (Lit.float .f32 st').wf = true) (hz : Wf zs) (hy : Wf ys) (h0 : sameS s t = true) (h1 : sm st st' = true) : Calls Try.prog 72 #[.pointer (some ⟨b, 0, none⟩), .pointer (some ⟨d, 0, none⟩)] w (Bol (sameB s t st st' zs ys) w) := by
  have AS := Lib.hid (bvs_stuff A)
  have XS := Lib.hid (bvs_stuff X)
  have c6 := A.at 6 rfl; have x6 := X.at 6 rfl
  have c7 := A.at 7 rfl; have x7 := X.at 7 rfl
  have R := Lib.hid (And.intro h h')
  have HW := Lib.hid (And.intro ws (And.intro wt (And.intro wst (And.intro wst' (And.intro hz hy)))))
  obtain ⟨a1, a2, rfl⟩ := h.shape
  obtain ⟨b1, b2, rfl⟩ := h'.shape
  generalize e1 : zs.length = n1 at c7 R
  generalize e2 : ys.length = n2 at x7 R
  clear e1 e2
  have H0 := Lib.hid h0
  have H1 := Lib.hid h1
  clear A X h h' ws wt wst wst' hz hy h0 h1
  go_enter Try.func72, Try.ntmps72
  go_wp2
  refine wp_region_loose (SgSB (sameS s t) (sm st st') (smL zs ys)) (by kernel_rfl) (by kernel_rfl) ?_
  try simp only [List.append]
  repeat ((with_reducible refine wpLoose_cons ?_); (first | ((with_reducible refine wpLoose_skip ?_ ?_); (focus (go_simp; done)); intro K hK; go_simp; refine hK _ ?_; clear hK K) | (refine wpLoose_farithG ?_ _ _ _ _ _ rfl rfl _ _ _ rfl rfl ?_; (focus (go_simp; done)); intro _ _) | (refine wpLoose_valG ?_ ?_ (fun w1 hw1 => ?_) (fun K hK => ?_); (focus (go_simp; done)); rotate_left; (focus (obtain ⟨nq, rfl⟩ := hw1; go_simp; first | done | rfl)); go_simp; refine hK _ ?_; clear hK K) | fail))
  refine wpLoose_callG ?_ 49 #[.pointer (some ⟨b, 0, none⟩), .pointer (some ⟨d, 0, none⟩)] (fun w1 => ?_) (fun w1 hw1 => ?_) (fun v1 hv1 => ?_)
  · go_simp
  · go_simp
  · obtain ⟨nq, rfl⟩ := hw1
    refine (specSameV_any s t b d _ AS.out.drewN XS.out.drewN HW.out.1 HW.out.2.1).mono ?_
    rintro e w2 ⟨rfl, n, rfl⟩
    exact ⟨_, rfl, by simp [SgSB], n, rfl⟩
  obtain rfl : v1 = .bool true := by simpa [SgSB, H0.out] using hv1
  repeat ((with_reducible refine wpLoose_cons ?_); (first | ((with_reducible refine wpLoose_skip ?_ ?_); (focus (go_simp; done)); intro K hK; go_simp; refine hK _ ?_; clear hK K) | (refine wpLoose_farithG ?_ _ _ _ _ _ rfl rfl _ _ _ rfl rfl ?_; (focus (go_simp; done)); intro _ _) | (refine wpLoose_valG ?_ ?_ (fun w1 hw1 => ?_) (fun K hK => ?_); (focus (go_simp; done)); rotate_left; (focus (obtain ⟨nq, rfl⟩ := hw1; go_simp; first | done | rfl)); go_simp; refine hK _ ?_; clear hK K) | fail))
  refine wpLoose_callG ?_ 86 #[.float .f32 st, .float .f32 st'] (fun w1 => ?_) (fun w1 hw1 => ?_) (fun v1 hv1 => ?_)
  · go_simp
  · go_simp
  · obtain ⟨nq, rfl⟩ := hw1
    refine (specSame_any _ _ _ HW.out.2.2.1 HW.out.2.2.2.1).mono ?_
    rintro e w2 ⟨rfl, rfl⟩
    exact ⟨_, rfl, by simp [SgSB], 0, rfl⟩
  obtain rfl : v1 = .bool true := by simpa [SgSB, H1.out] using hv1
  repeat ((with_reducible refine wpLoose_cons ?_); (first | ((with_reducible refine wpLoose_skip ?_ ?_); (focus (go_simp; done)); intro K hK; go_simp; refine hK _ ?_; clear hK K) | (refine wpLoose_farithG ?_ _ _ _ _ _ rfl rfl _ _ _ rfl rfl ?_; (focus (go_simp; done)); intro _ _) | (refine wpLoose_valG ?_ ?_ (fun w1 hw1 => ?_) (fun K hK => ?_); (focus (go_simp; done)); rotate_left; (focus (obtain ⟨nq, rfl⟩ := hw1; go_simp; first | done | rfl)); go_simp; refine hK _ ?_; clear hK K) | fail))
  refine wpLoose_callG ?_ 94 #[.slice a1 n1 a2, .slice b1 n2 b2] (fun w1 => ?_) (fun w1 hw1 => ?_) (fun v1 hv1 => ?_)
  · go_simp
  · go_simp
  · obtain ⟨nq, rfl⟩ := hw1
    refine (sameAll_any _ _ zs ys _ (FRow.drewN R.out.1) (FRow.drewN R.out.2) HW.out.2.2.2.2.1 HW.out.2.2.2.2.2).mono ?_
    rintro e w2 ⟨rfl, n, rfl⟩
    exact ⟨_, rfl, by simp [SgSB], n, rfl⟩
  obtain rfl : v1 = .bool (smL zs ys) := by simpa [SgSB] using hv1
  repeat ((with_reducible refine wpLoose_cons ?_); (first | ((with_reducible refine wpLoose_skip ?_ ?_); (focus (go_simp; done)); intro K hK; go_simp; refine hK _ ?_; clear hK K) | (refine wpLoose_farithG ?_ _ _ _ _ _ rfl rfl _ _ _ rfl rfl ?_; (focus (go_simp; done)); intro _ _) | (refine wpLoose_valG ?_ ?_ (fun w1 hw1 => ?_) (fun K hK => ?_); (focus (go_simp; done)); rotate_left; (focus (obtain ⟨nq, rfl⟩ := hw1; go_simp; first | done | rfl)); go_simp; refine hK _ ?_; clear hK K) | fail))
  (refine wpLoose_nil ?_; rintro _ ⟨nq, rfl⟩)
  go_wp2
  go_ret
  exact ⟨ret_b (by unfold sameB; rw [H0.out, H1.out]; rfl), _, rfl⟩

theorem specSameBV_any (s t : SF) (st st' : Nat) (v v' : Value) (zs ys : List Nat) (b d : Nat) (w : World) (A : Cells w b (bvs s st v)) (X : Cells w d (bvs t st' v')) (h : FRow w v zs) (h' : FRow w v' ys) (ws : s.wf) (wt : t.wf) (wst : (Lit.float .f32 st).wf = true) (wst' : (Lit.float .f32 st').wf = true) (hz : Wf zs) (hy : Wf ys) : Calls Try.prog 72 #[.pointer (some ⟨b, 0, none⟩), .pointer (some ⟨d, 0, none⟩)] w (Bol (sameB s t st st' zs ys) w) := by
  cases B0 : sameS s t
  · exact specSameBV0 s t st st' v v' zs ys b d w A X h h' ws wt wst wst' hz hy B0
  · cases B1 : sm st st'
    · exact specSameBV1 s t st st' v v' zs ys b d w A X h h' ws wt wst wst' hz hy B0 B1
    · exact specSameBV2 s t st st' v v' zs ys b d w A X h h' ws wt wst wst' hz hy B0 B1

theorem specSameB_any (s t : SF) (st st' : Nat) (v v' : Value) (zs ys : List Nat) (w : World) (h : FRow w v zs) (h' : FRow w v' ys) (ws : s.wf) (wt : t.wf) (wst : (Lit.float .f32 st).wf = true) (wst' : (Lit.float .f32 st').wf = true) (hz : Wf zs) (hy : Wf ys) : Calls Try.prog 32 #[.agg #[.float .f32 s.so, .float .f32 s.fl, .float .f32 s.es, .float .f32 s.ef, .float .f32 s.pt, .float .f32 s.la, .float .f32 st, v], .agg #[.float .f32 t.so, .float .f32 t.fl, .float .f32 t.es, .float .f32 t.ef, .float .f32 t.pt, .float .f32 t.la, .float .f32 st', v']] w (BolB (sameB s t st st' zs ys) w) := by
  have A := Lib.hid ((Cells.made w (bvs s st (v)) 42).al (.cells (bvs t st' (v')).toArray 42))
  have X := Cells.made (w.alloc (.cells (bvs s st (v)).toArray 42)) (bvs t st' (v')) 42
  rw [show (w.alloc (.cells (bvs s st (v)).toArray 42)).heap.size = w.heap.size + 1 from by simp] at X
  have X := Lib.hid X
  have Bw := Lib.hid (below_al2 w (.cells (bvs s st (v)).toArray 42) (.cells (bvs t st' (v')).toArray 42))
  have R := Lib.hid (And.intro (h.below Bw.out) (h'.below Bw.out))
  clear h h'
  go_enter Try.func32, Try.ntmps32
  go_wp2_with fail
  refine (specSameBV_any s t st st' v v' zs ys _ _ _ A.out X.out R.out.1 R.out.2 ws wt wst wst' hz hy).mono ?_
  rintro e w1 ⟨rfl, n, rfl⟩
  go_wp2
  go_ret
  exact ⟨rfl, below_drewN Bw.out _⟩

set_option maxHeartbeats 1600000 in
theorem implSameB_any (s t : SF) (st st' : Nat) (v v' : Value) (zs ys : List Nat) (w : World) (h : FRow w v zs) (h' : FRow w v' ys) (ws : s.wf) (wt : t.wf) (wst : (Lit.float .f32 st).wf = true) (wst' : (Lit.float .f32 st').wf = true) (hz : Wf zs) (hy : Wf ys) : Calls Try.prog 33 #[.agg #[.float .f32 s.so, .float .f32 s.fl, .float .f32 s.es, .float .f32 s.ef, .float .f32 s.pt, .float .f32 s.la, .float .f32 st, v], .agg #[.float .f32 t.so, .float .f32 t.fl, .float .f32 t.es, .float .f32 t.ef, .float .f32 t.pt, .float .f32 t.la, .float .f32 st', v']] w (BolB (sameB s t st st' zs ys) w) := by
  have A := Lib.hid ((Cells.made w (bvs s st (v)) 42).al (.cells (bvs t st' (v')).toArray 42))
  have X := Cells.made (w.alloc (.cells (bvs s st (v)).toArray 42)) (bvs t st' (v')) 42
  rw [show (w.alloc (.cells (bvs s st (v)).toArray 42)).heap.size = w.heap.size + 1 from by simp] at X
  have X := Lib.hid X
  have Bw := Lib.hid (below_al2 w (.cells (bvs s st (v)).toArray 42) (.cells (bvs t st' (v')).toArray 42))
  have R := Lib.hid (fun w1 (hb : Below w.heap.size w w1) => And.intro (h.below hb) (h'.below hb))
  obtain ⟨a1, a2, rfl⟩ := h.shape
  obtain ⟨b1, b2, rfl⟩ := h'.shape
  generalize zs.length = n1 at *
  generalize ys.length = n2 at *
  clear h h'
  cases B0 : sameS s t
  · skip
    have H0 := Lib.hid B0
    clear B0
    have c0 := A.out.at 0 rfl; have c1 := A.out.at 1 rfl; have c2 := A.out.at 2 rfl; have c3 := A.out.at 3 rfl; have c4 := A.out.at 4 rfl; have c5 := A.out.at 5 rfl; have c6 := A.out.at 6 rfl; have c7 := A.out.at 7 rfl; have x0 := X.out.at 0 rfl; have x1 := X.out.at 1 rfl; have x2 := X.out.at 2 rfl; have x3 := X.out.at 3 rfl; have x4 := X.out.at 4 rfl; have x5 := X.out.at 5 rfl; have x6 := X.out.at 6 rfl; have x7 := X.out.at 7 rfl
    go_enter Try.func33, Try.ntmps33
    go_wp2_with fail
    refine (implSameS_any s t _ ws wt).mono ?_
    rw [H0.out]
    rintro e w1 ⟨rfl, hb⟩
    (first | (have Bw := Lib.hid (below_step Bw.out hb)) | (have Bw := Lib.hid (below_step Bw.out (below_undrew hb))) | (have Bw := Lib.hid (below_step Bw.out (below_unal hb))) | (have Bw := Lib.hid (below_step Bw.out (below_unal (below_undrew hb)))) | (have Bw := Lib.hid (below_step Bw.out (below_undrew (below_unal hb)))) | (have Bw := Lib.hid (below_step Bw.out (below_unal (below_unal hb))))); (first | (have A := Lib.hid (A.out.kept hb)) | (have A := Lib.hid (A.out.kept (below_undrew hb))) | (have A := Lib.hid (A.out.kept (below_unal hb))) | (have A := Lib.hid (A.out.kept (below_unal (below_undrew hb)))) | (have A := Lib.hid (A.out.kept (below_undrew (below_unal hb)))) | (have A := Lib.hid (A.out.kept (below_unal (below_unal hb))))); (first | (have X := Lib.hid (X.out.kept hb)) | (have X := Lib.hid (X.out.kept (below_undrew hb))) | (have X := Lib.hid (X.out.kept (below_unal hb))) | (have X := Lib.hid (X.out.kept (below_unal (below_undrew hb)))) | (have X := Lib.hid (X.out.kept (below_undrew (below_unal hb)))) | (have X := Lib.hid (X.out.kept (below_unal (below_unal hb)))))
    clear c0 x0 c1 x1 c2 x2 c3 x3 c4 x4 c5 x5 c6 x6 c7 x7
    have c0 := A.out.at 0 rfl; have c1 := A.out.at 1 rfl; have c2 := A.out.at 2 rfl; have c3 := A.out.at 3 rfl; have c4 := A.out.at 4 rfl; have c5 := A.out.at 5 rfl; have c6 := A.out.at 6 rfl; have c7 := A.out.at 7 rfl; have x0 := X.out.at 0 rfl; have x1 := X.out.at 1 rfl; have x2 := X.out.at 2 rfl; have x3 := X.out.at 3 rfl; have x4 := X.out.at 4 rfl; have x5 := X.out.at 5 rfl; have x6 := X.out.at 6 rfl; have x7 := X.out.at 7 rfl
    clear hb
    go_wp2
    go_ret
    exact ⟨ret_b (by unfold sameB; rw [H0.out]; rfl), by first | exact Bw.out | exact below_drewN Bw.out _⟩
  · skip
    cases B1 : sm st st'
    · skip
      have H0 := Lib.hid B0
      have H1 := Lib.hid B1
      clear B0 B1
      have c0 := A.out.at 0 rfl; have c1 := A.out.at 1 rfl; have c2 := A.out.at 2 rfl; have c3 := A.out.at 3 rfl; have c4 := A.out.at 4 rfl; have c5 := A.out.at 5 rfl; have c6 := A.out.at 6 rfl; have c7 := A.out.at 7 rfl; have x0 := X.out.at 0 rfl; have x1 := X.out.at 1 rfl; have x2 := X.out.at 2 rfl; have x3 := X.out.at 3 rfl; have x4 := X.out.at 4 rfl; have x5 := X.out.at 5 rfl; have x6 := X.out.at 6 rfl; have x7 := X.out.at 7 rfl
      go_enter Try.func33, Try.ntmps33
      go_wp2_with fail
      refine (implSameS_any s t _ ws wt).mono ?_
      rw [H0.out]
      rintro e w1 ⟨rfl, hb⟩
      (first | (have Bw := Lib.hid (below_step Bw.out hb)) | (have Bw := Lib.hid (below_step Bw.out (below_undrew hb))) | (have Bw := Lib.hid (below_step Bw.out (below_unal hb))) | (have Bw := Lib.hid (below_step Bw.out (below_unal (below_undrew hb)))) | (have Bw := Lib.hid (below_step Bw.out (below_undrew (below_unal hb)))) | (have Bw := Lib.hid (below_step Bw.out (below_unal (below_unal hb))))); (first | (have A := Lib.hid (A.out.kept hb)) | (have A := Lib.hid (A.out.kept (below_undrew hb))) | (have A := Lib.hid (A.out.kept (below_unal hb))) | (have A := Lib.hid (A.out.kept (below_unal (below_undrew hb)))) | (have A := Lib.hid (A.out.kept (below_undrew (below_unal hb)))) | (have A := Lib.hid (A.out.kept (below_unal (below_unal hb))))); (first | (have X := Lib.hid (X.out.kept hb)) | (have X := Lib.hid (X.out.kept (below_undrew hb))) | (have X := Lib.hid (X.out.kept (below_unal hb))) | (have X := Lib.hid (X.out.kept (below_unal (below_undrew hb)))) | (have X := Lib.hid (X.out.kept (below_undrew (below_unal hb)))) | (have X := Lib.hid (X.out.kept (below_unal (below_unal hb)))))
      clear c0 x0 c1 x1 c2 x2 c3 x3 c4 x4 c5 x5 c6 x6 c7 x7
      have c0 := A.out.at 0 rfl; have c1 := A.out.at 1 rfl; have c2 := A.out.at 2 rfl; have c3 := A.out.at 3 rfl; have c4 := A.out.at 4 rfl; have c5 := A.out.at 5 rfl; have c6 := A.out.at 6 rfl; have c7 := A.out.at 7 rfl; have x0 := X.out.at 0 rfl; have x1 := X.out.at 1 rfl; have x2 := X.out.at 2 rfl; have x3 := X.out.at 3 rfl; have x4 := X.out.at 4 rfl; have x5 := X.out.at 5 rfl; have x6 := X.out.at 6 rfl; have x7 := X.out.at 7 rfl
      clear hb
      go_wp2_with fail
      refine (implSame_any st st' _ wst wst').mono ?_
      rw [H1.out]
      rintro e w1 ⟨rfl, rfl⟩
      go_wp2
      go_ret
      exact ⟨ret_b (by unfold sameB; rw [H0.out, H1.out]; rfl), by first | exact Bw.out | exact below_drewN Bw.out _⟩
    · skip
      have H0 := Lib.hid B0
      have H1 := Lib.hid B1
      clear B0 B1
      have c0 := A.out.at 0 rfl; have c1 := A.out.at 1 rfl; have c2 := A.out.at 2 rfl; have c3 := A.out.at 3 rfl; have c4 := A.out.at 4 rfl; have c5 := A.out.at 5 rfl; have c6 := A.out.at 6 rfl; have c7 := A.out.at 7 rfl; have x0 := X.out.at 0 rfl; have x1 := X.out.at 1 rfl; have x2 := X.out.at 2 rfl; have x3 := X.out.at 3 rfl; have x4 := X.out.at 4 rfl; have x5 := X.out.at 5 rfl; have x6 := X.out.at 6 rfl; have x7 := X.out.at 7 rfl
      go_enter Try.func33, Try.ntmps33
      go_wp2_with fail
      refine (implSameS_any s t _ ws wt).mono ?_
      rw [H0.out]
      rintro e w1 ⟨rfl, hb⟩
      (first | (have Bw := Lib.hid (below_step Bw.out hb)) | (have Bw := Lib.hid (below_step Bw.out (below_undrew hb))) | (have Bw := Lib.hid (below_step Bw.out (below_unal hb))) | (have Bw := Lib.hid (below_step Bw.out (below_unal (below_undrew hb)))) | (have Bw := Lib.hid (below_step Bw.out (below_undrew (below_unal hb)))) | (have Bw := Lib.hid (below_step Bw.out (below_unal (below_unal hb))))); (first | (have A := Lib.hid (A.out.kept hb)) | (have A := Lib.hid (A.out.kept (below_undrew hb))) | (have A := Lib.hid (A.out.kept (below_unal hb))) | (have A := Lib.hid (A.out.kept (below_unal (below_undrew hb)))) | (have A := Lib.hid (A.out.kept (below_undrew (below_unal hb)))) | (have A := Lib.hid (A.out.kept (below_unal (below_unal hb))))); (first | (have X := Lib.hid (X.out.kept hb)) | (have X := Lib.hid (X.out.kept (below_undrew hb))) | (have X := Lib.hid (X.out.kept (below_unal hb))) | (have X := Lib.hid (X.out.kept (below_unal (below_undrew hb)))) | (have X := Lib.hid (X.out.kept (below_undrew (below_unal hb)))) | (have X := Lib.hid (X.out.kept (below_unal (below_unal hb)))))
      clear c0 x0 c1 x1 c2 x2 c3 x3 c4 x4 c5 x5 c6 x6 c7 x7
      have c0 := A.out.at 0 rfl; have c1 := A.out.at 1 rfl; have c2 := A.out.at 2 rfl; have c3 := A.out.at 3 rfl; have c4 := A.out.at 4 rfl; have c5 := A.out.at 5 rfl; have c6 := A.out.at 6 rfl; have c7 := A.out.at 7 rfl; have x0 := X.out.at 0 rfl; have x1 := X.out.at 1 rfl; have x2 := X.out.at 2 rfl; have x3 := X.out.at 3 rfl; have x4 := X.out.at 4 rfl; have x5 := X.out.at 5 rfl; have x6 := X.out.at 6 rfl; have x7 := X.out.at 7 rfl
      clear hb
      go_wp2_with fail
      refine (implSame_any st st' _ wst wst').mono ?_
      rw [H1.out]
      rintro e w1 ⟨rfl, rfl⟩
      go_wp2_with fail
      refine (eqFunc_any _ _ zs ys _ (R.out _ Bw.out).1 (R.out _ Bw.out).2 hz hy).mono ?_
      rintro e w1 ⟨rfl, n, rfl⟩
      go_wp2
      go_ret
      exact ⟨ret_b (by unfold sameB; rw [H0.out, H1.out]; rfl), by first | exact Bw.out | exact below_drewN Bw.out _⟩

end Go.Proofs.Ytgcgfnpkkhhkgab
