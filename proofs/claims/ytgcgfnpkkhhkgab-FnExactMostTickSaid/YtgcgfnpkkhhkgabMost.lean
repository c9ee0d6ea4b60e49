/- The greatest tick of a bar: both sides. -/
import Derived.Test.YtgcgfnpkkhhkgabBarI
import Derived.Test.YtgcgfnpkkhhkgabGiv3
namespace Go.Proofs.Ytgcgfnpkkhhkgab
open Go.RowKit
set_option linter.unusedVariables false

def minV (k : FloatKind) (x y : Nat) : Nat := match k.format.order x y with | some .lt => x | some .gt => y | some .eq => (if (k.decode x).neg then x else y) | none => 0
def maxV (k : FloatKind) (x y : Nat) : Nat := match k.format.order x y with | some .lt => y | some .gt => x | some .eq => (if (k.decode x).neg then y else x) | none => 0
@[go_sem] theorem run_min_f {P : Program} {w : World} {ts : Array TypeId} {t : TypeId} {k : FloatKind} {x y : Nat} (h : (k.format.order x y).isSome = true) : (Builtin.min_ ts t #[.float k x, .float k y]).run P w = .ok (.float k (minV k x y)) w := by
  simp only [Builtin.min_, minV, List.foldlM_cons, List.foldlM_nil, Builtin.min2]
  cases e : k.format.order x y with
  | none => rw [e] at h; cases h
  | some o => cases o <;> simp
@[go_sem] theorem run_max_f {P : Program} {w : World} {ts : Array TypeId} {t : TypeId} {k : FloatKind} {x y : Nat} (h : (k.format.order x y).isSome = true) : (Builtin.max_ ts t #[.float k x, .float k y]).run P w = .ok (.float k (maxV k x y)) w := by
  simp only [Builtin.max_, maxV, List.foldlM_cons, List.foldlM_nil, Builtin.max2]
  cases e : k.format.order x y with
  | none => rw [e] at h; cases h
  | some o => cases o <;> simp
theorem pos_fin {x : Nat} (h : pos x = true) : fin .f32 x = true := by unfold pos at h; simp only [Bool.and_eq_true] at h; exact h.1
theorem fin_nn {x : Nat} (h : fin .f32 x = true) : nn .f32 x = false := by cases hn : nn .f32 x with | false => rfl | true => rw [fin_nan hn] at h; cases h
theorem ord_some {x y : Nat} (hx : pos x = true) (hy : pos y = true) : (FloatKind.f32.format.order x y).isSome = true := by
  rw [ord_key, fin_nn (pos_fin hx), fin_nn (pos_fin hy)]
  simp
theorem vBar_st {s : SF} {st : Nat} {zs : List Nat} (h : vBar s st zs = true) : vStuff s = true := by
  unfold vBar at h
  simp only [Bool.and_eq_true] at h
  exact h.1.1.1.1
theorem vStuff_all {s : SF} (h : vStuff s = true) : pos s.so = true ∧ pos s.fl = true ∧ pos s.es = true ∧ pos s.ef = true := by
  unfold vStuff at h
  simp only [Bool.and_eq_true] at h
  exact ⟨h.1.1.1.1.1, h.1.1.1.1.2, h.1.1.1.2, h.1.1.2⟩
def quart : Nat := 1048576000
def mtV (s : SF) (st : Nat) : Nat := fop .quo .f32 (fop .mul .f32 (fop .mul .f32 (fop .mul .f32 quart st) st) (minV .f32 s.so s.fl)) (maxV .f32 s.es s.ef)
theorem mt_of {s : SF} {st m x r1 r2 r3 r4 : Nat} (hm : minV .f32 s.so s.fl = m) (hx : maxV .f32 s.es s.ef = x) (f1 : FR .mul .f32 quart st r1) (f2 : FR .mul .f32 r1 st r2) (f3 : FR .mul .f32 r2 m r3) (f4 : FR .quo .f32 r3 x r4) : cn .f32 r4 = mtV s st := by
  unfold mtV; rw [f4.1, f3.1, f2.1, f1.1, hm, hx]; simp only [fopl, fopr]
theorem vBar_ords {s : SF} {st : Nat} {zs : List Nat} (h : vBar s st zs = true) : (FloatKind.f32.format.order s.so s.fl).isSome = true ∧ (FloatKind.f32.format.order s.es s.ef).isSome = true := by
  obtain ⟨a, b, c, d⟩ := vStuff_all (vBar_st h)
  exact ⟨ord_some a b, ord_some c d⟩

set_option maxRecDepth 10000 in
set_option maxHeartbeats 1600000 in
theorem specMostV_any (s : SF) (st : Nat) (v : Value) (p : Nat) (w : World) (A0 : Cells w p (bvs s st v)) (o1 : (FloatKind.f32.format.order s.so s.fl).isSome = true) (o2 : (FloatKind.f32.format.order s.es s.ef).isSome = true) : Calls Try.prog 75 #[.pointer (some ⟨p, 0, none⟩)] w (Num (mtV s st) w) := by
  have A := Lib.hid A0
  clear A0
  obtain ⟨m, hm⟩ : ∃ m, minV .f32 s.so s.fl = m := ⟨_, rfl⟩
  obtain ⟨x, hx⟩ : ∃ x, maxV .f32 s.es s.ef = x := ⟨_, rfl⟩
  have HT := Lib.hid (fun (r1 r2 r3 r4 : Nat) (f1 : FR .mul .f32 quart st r1) (f2 : FR .mul .f32 r1 st r2) (f3 : FR .mul .f32 r2 m r3) (f4 : FR .quo .f32 r3 x r4) => mt_of hm hx f1 f2 f3 f4)
  have c0 := A.out.at 0 rfl
  have c1 := A.out.at 1 rfl
  have c2 := A.out.at 2 rfl
  have c3 := A.out.at 3 rfl
  have c4 := A.out.at 4 rfl
  have c5 := A.out.at 5 rfl
  have c6 := A.out.at 6 rfl
  have c7 := A.out.at 7 rfl
  go_enter Try.func75, Try.ntmps75
  go_wp2
  refine wp_region_loose (fun _ _ _ => True) (by kernel_rfl) (by kernel_rfl) ?_
  repeat ((with_reducible refine wpLoose_cons ?_); (first | ((with_reducible refine wpLoose_skip ?_ ?_); (focus (go_simp; done)); intro K hK; go_simp; refine hK _ ?_; clear hK K) | (refine wpLoose_farithG ?_ _ _ _ _ _ rfl rfl _ _ _ rfl rfl ?_; (focus (go_simp; done)); intro _ _) | (refine wpLoose_valG ?_ ?_ (fun w1 hw1 => ?_) (fun K hK => ?_); (focus (go_simp; done)); rotate_left; (focus (obtain ⟨nq, rfl⟩ := hw1; go_simp; first | done | rfl)); go_simp; refine hK _ ?_; clear hK K) | fail))
  (refine wpLoose_nil ?_; rintro _ ⟨nq, rfl⟩)
  go_wp2
  refine wp_region_loose (fun _ _ _ => True) (by kernel_rfl) (by kernel_rfl) ?_
  repeat ((with_reducible refine wpLoose_cons ?_); (first | ((with_reducible refine wpLoose_skip ?_ ?_); (focus (go_simp; done)); intro K hK; go_simp; refine hK _ ?_; clear hK K) | (refine wpLoose_farithG ?_ _ _ _ _ _ rfl rfl _ _ _ rfl rfl ?_; (focus (go_simp; done)); intro _ _) | (refine wpLoose_valG ?_ ?_ (fun w1 hw1 => ?_) (fun K hK => ?_); (focus (go_simp; done)); rotate_left; (focus (obtain ⟨nq, rfl⟩ := hw1; go_simp; first | done | rfl)); go_simp; refine hK _ ?_; clear hK K) | fail))
  (refine wpLoose_nil ?_; rintro _ ⟨nq, rfl⟩)
  go_wp2
  refine wp_region_loose (fun _ _ _ => True) (by kernel_rfl) (by kernel_rfl) ?_
  repeat ((with_reducible refine wpLoose_cons ?_); (first | ((with_reducible refine wpLoose_skip ?_ ?_); (focus (go_simp; done)); intro K hK; go_simp; refine hK _ ?_; clear hK K) | (refine wpLoose_farithG ?_ _ _ _ _ _ rfl rfl _ _ _ rfl rfl ?_; (focus (go_simp; done)); intro _ _) | (refine wpLoose_valG ?_ ?_ (fun w1 hw1 => ?_) (fun K hK => ?_); (focus (go_simp; done)); rotate_left; (focus (obtain ⟨nq, rfl⟩ := hw1; go_simp; first | done | rfl)); go_simp; refine hK _ ?_; clear hK K) | fail))
  (refine wpLoose_nil ?_; rintro _ ⟨nq, rfl⟩)
  go_wp2
  go_ret
  rename_i r1 f1 r2 f2 r3 f3 r4 f4
  exact ⟨_, HT.out _ _ _ _ f1 f2 f3 f4, rfl, _, by rw [World.drewN_drewN, World.drewN_drewN]⟩

set_option maxRecDepth 10000 in
set_option maxHeartbeats 1600000 in
theorem specMost_any (s : SF) (st : Nat) (v : Value) (zs : List Nat) (w : World) (h : FRow w v zs) : Calls Try.prog 34 #[.agg #[.float .f32 s.so, .float .f32 s.fl, .float .f32 s.es, .float .f32 s.ef, .float .f32 s.pt, .float .f32 s.la, .float .f32 st, v]] w (GivB (cS (vBar s st zs) (mtV s st)) (cB (vBar s st zs) (mtV s st)) w) := by
  cases hB : vBar s st zs
  · have HB := Lib.hid hB
    clear hB
    have R := Lib.hid (fun w1 (hb : Below w.heap.size w w1) => h.below hb)
    clear h
    have A := Lib.hid (Cells.made w (bvs s st v) 42)
    have Bw := Lib.hid (below_al1 w (.cells (bvs s st v).toArray 42))
    go_enter Try.func34, Try.ntmps34
    go_wp2_with fail
    refine (specBar_any s st v zs _ _ A.out (R.out _ Bw.out)).mono ?_
    rw [HB.out]
    rintro e w' ⟨rfl, n, rfl⟩
    go_wp2
    go_ret2
    exact cGiv_no rfl (by repeat (first | exact Bw.out | exact Below.refl _ _ | refine Below.setCell ?_ (by first | exact Nat.le_refl _ | (simp; done) | (simp; omega) | omega) _ | refine below_drewN ?_ _ | refine Below.alloc ?_ (by first | exact Nat.le_refl _ | (simp; done) | (simp; omega) | omega) _))
  · have HB := Lib.hid hB
    have OO := Lib.hid (vBar_ords hB)
    clear hB
    have R := Lib.hid (fun w1 (hb : Below w.heap.size w w1) => h.below hb)
    clear h
    have A := Lib.hid (Cells.made w (bvs s st v) 42)
    have Bw := Lib.hid (below_al1 w (.cells (bvs s st v).toArray 42))
    go_enter Try.func34, Try.ntmps34
    go_wp2_with fail
    refine (specBar_any s st v zs _ _ A.out (R.out _ Bw.out)).mono ?_
    rw [HB.out]
    rintro e w' ⟨rfl, n, rfl⟩
    have c0 := A.out.at 0 rfl
    have c1 := A.out.at 1 rfl
    have c2 := A.out.at 2 rfl
    have c3 := A.out.at 3 rfl
    have c4 := A.out.at 4 rfl
    have c5 := A.out.at 5 rfl
    have c6 := A.out.at 6 rfl
    have c7 := A.out.at 7 rfl
    go_wp2_with fail
    refine (specMostV_any s st v _ _ A.out.drewN OO.out.1 OO.out.2).mono ?_
    rintro _ w2 ⟨r, hr, rfl, n3, rfl⟩
    have HR := Lib.hid hr
    clear hr
    go_wp2_with (go_at_call 53; refine (specNum_any _ _).mono ?_; rintro _ _ ⟨rfl, n9, rfl⟩)
    go_ret2
    exact cGiv_yes rfl HR.out (by repeat (first | exact Bw.out | exact Below.refl _ _ | refine Below.setCell ?_ (by first | exact Nat.le_refl _ | (simp; done) | (simp; omega) | omega) _ | refine below_drewN ?_ _ | refine Below.alloc ?_ (by first | exact Nat.le_refl _ | (simp; done) | (simp; omega) | omega) _))

set_option maxRecDepth 10000 in
set_option maxHeartbeats 1600000 in
theorem implMost_any (s : SF) (st : Nat) (v : Value) (zs : List Nat) (w : World) (h : FRow w v zs) : Calls Try.prog 35 #[.agg #[.float .f32 s.so, .float .f32 s.fl, .float .f32 s.es, .float .f32 s.ef, .float .f32 s.pt, .float .f32 s.la, .float .f32 st, v]] w (GivB (cS (vBar s st zs) (mtV s st)) (cB (vBar s st zs) (mtV s st)) w) := by
  cases hB : vBar s st zs
  · have HB := Lib.hid hB
    clear hB
    have R := Lib.hid (fun w1 (hb : Below w.heap.size w w1) => h.below hb)
    clear h
    have A := Lib.hid (Cells.made w (bvs s st v) 42)
    have Bw := Lib.hid (below_al1 w (.cells (bvs s st v).toArray 42))
    go_enter Try.func35, Try.ntmps35
    go_wp2_with fail
    refine (implVBar_any s st v zs _ (R.out _ Bw.out)).mono ?_
    rw [HB.out]
    rintro _ w1 ⟨rfl, hb⟩
    have Bw := Lib.hid (below_step Bw.out hb)
    clear hb
    go_wp2
    go_ret2
    exact cGiv_no rfl (by repeat (first | exact Bw.out | exact Below.refl _ _ | refine Below.setCell ?_ (by first | exact Nat.le_refl _ | (simp; done) | (simp; omega) | omega) _ | refine below_drewN ?_ _ | refine Below.alloc ?_ (by first | exact Nat.le_refl _ | (simp; done) | (simp; omega) | omega) _))
  · have HB := Lib.hid hB
    obtain ⟨o1, o2⟩ := vBar_ords hB
    clear hB
    obtain ⟨m, hm⟩ : ∃ m, minV .f32 s.so s.fl = m := ⟨_, rfl⟩
    obtain ⟨x, hx⟩ : ∃ x, maxV .f32 s.es s.ef = x := ⟨_, rfl⟩
    have HT := Lib.hid (fun (r1 r2 r3 r4 : Nat) (f1 : FR .mul .f32 quart st r1) (f2 : FR .mul .f32 r1 st r2) (f3 : FR .mul .f32 r2 m r3) (f4 : FR .quo .f32 r3 x r4) => mt_of hm hx f1 f2 f3 f4)
    have R := Lib.hid (fun w1 (hb : Below w.heap.size w w1) => h.below hb)
    clear h
    have A := Lib.hid (Cells.made w (bvs s st v) 42)
    have Bw := Lib.hid (below_al1 w (.cells (bvs s st v).toArray 42))
    go_enter Try.func35, Try.ntmps35
    go_wp2_with fail
    refine (implVBar_any s st v zs _ (R.out _ Bw.out)).mono ?_
    rw [HB.out]
    rintro _ w1 ⟨rfl, hb⟩
    have A := Lib.hid (A.out.kept hb)
    have Bw := Lib.hid (below_step Bw.out hb)
    clear hb
    have c0 := A.out.at 0 rfl
    have c1 := A.out.at 1 rfl
    have c2 := A.out.at 2 rfl
    have c3 := A.out.at 3 rfl
    have c4 := A.out.at 4 rfl
    have c5 := A.out.at 5 rfl
    have c6 := A.out.at 6 rfl
    have c7 := A.out.at 7 rfl
    have hz := A.out.lt
    go_wp2_with (first | (refine wpList_farith rfl .mul _ _ _ _ rfl rfl .f32 quart st rfl rfl ?_; intro r1 j1 f1) | (refine wpList_farith rfl .mul _ _ _ _ rfl rfl .f32 r1 st rfl rfl ?_; intro r2 j2 f2) | (refine wpList_farith rfl .mul _ _ _ _ rfl rfl .f32 r2 m rfl rfl ?_; intro r3 j3 f3) | (refine wpList_farith rfl .quo _ _ _ _ rfl rfl .f32 r3 x rfl rfl ?_; intro r4 j4 f4) | (go_at_call 63; refine (implNum_any _ _).mono ?_; rintro _ _ ⟨rfl, n9, rfl⟩))
    go_ret2
    exact cGiv_yes rfl (HT.out _ _ _ _ f1 f2 f3 f4) (by repeat (first | exact Bw.out | exact Below.refl _ _ | refine Below.setCell ?_ (by first | exact Nat.le_refl _ | (simp; done) | (simp; omega) | omega) _ | refine below_drewN ?_ _ | refine Below.alloc ?_ (by first | exact Nat.le_refl _ | (simp; done) | (simp; omega) | omega) _))

end Go.Proofs.Ytgcgfnpkkhhkgab
