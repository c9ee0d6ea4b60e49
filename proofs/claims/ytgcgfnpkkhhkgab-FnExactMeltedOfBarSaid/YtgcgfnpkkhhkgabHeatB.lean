/- The heat in a bar: both sides. -/
import Derived.Test.YtgcgfnpkkhhkgabBarI
import Derived.Test.YtgcgfnpkkhhkgabSumI
import Derived.Test.YtgcgfnpkkhhkgabGiv3
namespace Go.Proofs.Ytgcgfnpkkhhkgab
open Go.RowKit
set_option linter.unusedVariables false

def htV (st : Nat) (zs : List Nat) : Nat := fop .mul .f32 (sumF zs) st
theorem vBar_len {s : SF} {st : Nat} {zs : List Nat} (h : vBar s st zs = true) : 1 ≤ zs.length ∧ zs.length ≤ 48 := by
  unfold vBar at h
  simp only [Bool.and_eq_true, decide_eq_true_eq] at h
  exact ⟨h.1.1.2, h.1.2⟩
theorem ht_of {st r q : Nat} {zs : List Nat} (h : cn .f32 r = sumF zs) (f : FR .mul .f32 r st q) : cn .f32 q = htV st zs := by
  unfold htV; rw [f.1, h, ← fopr .mul .f32 (sumF zs) st]
theorem sum_step {r q z k : Nat} {zs : List Nat} (hk : k < zs.length) (h : cn .f32 r = sumF (zs.take k)) (hz : zs.getD k 0 = z) (f : FR .add .f32 r z q) : cn .f32 q = sumF (zs.take (k + 1)) := by
  rw [sumF_succ zs k hk, f.1, h, hz]

set_option maxRecDepth 10000 in
set_option maxHeartbeats 1600000 in
theorem specHeatB_any (s : SF) (st : Nat) (v : Value) (zs : List Nat) (w : World) (h : FRow w v zs) : Calls Try.prog 36 #[.agg #[.float .f32 s.so, .float .f32 s.fl, .float .f32 s.es, .float .f32 s.ef, .float .f32 s.pt, .float .f32 s.la, .float .f32 st, v]] w (GivB (cS (vBar s st zs) (htV st zs)) (cB (vBar s st zs) (htV st zs)) w) := by
  cases hB : vBar s st zs
  · have HB := Lib.hid hB
    clear hB
    have R := Lib.hid (fun w1 (hb : Below w.heap.size w w1) => h.below hb)
    clear h
    have A := Lib.hid (Cells.made w (bvs s st v) 42)
    have Bw := Lib.hid (below_al1 w (.cells (bvs s st v).toArray 42))
    go_enter Try.func36, Try.ntmps36
    go_wp2_with fail
    refine (specBar_any s st v zs _ _ A.out (R.out _ Bw.out)).mono ?_
    rw [HB.out]
    rintro e w' ⟨rfl, n, rfl⟩
    go_wp2
    go_ret2
    exact cGiv_no rfl (by repeat (first | exact Bw.out | exact Below.refl _ _ | refine Below.setCell ?_ (by first | exact Nat.le_refl _ | (simp; done) | (simp; omega) | omega) _ | refine below_drewN ?_ _ | refine Below.alloc ?_ (by first | exact Nat.le_refl _ | (simp; done) | (simp; omega) | omega) _))
  · have HB := Lib.hid hB
    have LE := vBar_len hB
    clear hB
    have HV := Lib.hid (fun (r q : Nat) (h : cn .f32 r = sumF zs) (f : FR .mul .f32 r st q) => ht_of h f)
    have HS := Lib.hid (fun (r q z k : Nat) (hk : k < zs.length) (h : cn .f32 r = sumF (zs.take k)) (hz : zs.getD k 0 = z) (f : FR .add .f32 r z q) => sum_step hk h hz f)
    have HE : Hid (zs.take zs.length = zs) := Lib.hid (by simp)
    have HI : Hid (cn .f32 0 = sumF (zs.take 0)) := Lib.hid rfl
    obtain ⟨b0, o0, k0, rfl, h0⟩ := h.cells LE.1
    have R := Lib.hid (fun w1 (hb : Below w.heap.size w w1) => h.below hb)
    clear h
    have A := Lib.hid (Cells.made w (bvs s st (.slice (some ⟨b0, o0, none⟩) zs.length k0)) 42)
    have Bw := Lib.hid (below_al1 w (.cells (bvs s st (.slice (some ⟨b0, o0, none⟩) zs.length k0)).toArray 42))
    have h1 : Hid (∀ i, i < zs.length → (w.alloc (.cells (bvs s st (.slice (some ⟨b0, o0, none⟩) zs.length k0)).toArray 42)).cell? ⟨b0, o0 + i, none⟩ = some (.float .f32 (zs.getD i 0))) := Lib.hid (fun i hi => by rw [Bw.out.cell (p := ⟨b0, o0 + i, none⟩) (cell_lt (h0 i hi))]; exact h0 i hi)
    clear h0
    have LE1 := LE.2
    clear LE
    go_enter Try.func36, Try.ntmps36
    go_wp2_with fail
    refine (specBar_any s st _ zs _ _ A.out (R.out _ Bw.out)).mono ?_
    rw [HB.out]
    rintro e w' ⟨rfl, n, rfl⟩
    have c0 := A.out.at 0 rfl
    have c1 := A.out.at 1 rfl
    have c2 := A.out.at 2 rfl
    have c3 := A.out.at 3 rfl
    have c4 := A.out.at 4 rfl
    have c5 := A.out.at 5 rfl
    have c6 := A.out.at 6 rfl
    have c7 := A.out.at 7 rfl
    generalize hn : zs.length = m at *
    clear hn
    have LG := Lib.hid LE1
    clear LE1
    go_wp2
    go_loopw [4, 5, 11] (fun x _ i wr => ∃ k q r : Nat, k ≤ m ∧ i = .int .i64 k ∧ x = .float .f32 r ∧ Hid (cn .f32 r = sumF (zs.take k)) ∧ wr = (w.alloc (.cells (bvs s st (.slice (some ⟨b0, o0, none⟩) m k0)).toArray 42)).drewN q) (fun _ _ i _ => m - (intOf i).toNat)
    case atStart => exact ⟨0, _, 0, Nat.zero_le _, rfl, rfl, HI, rfl⟩
    case round =>
      obtain ⟨k, q, r, hk, rfl, rfl, hr, rfl⟩ := hrel
      by_cases hlt : k < m
      · have z0 := h1.out k hlt
        have hG := LG.out
        have hi : (0 : Int) ≤ (k : Int) := by omega
        have hi' : (k : Int) < (m : Int) := by omega
        have HSk := Lib.hid (fun (q z : Nat) (hz : zs.getD k 0 = z) (f : FR .add .f32 r z q) => HS.out r q z k hlt hr.out hz f)
        generalize hy : zs.getD k 0 = y at *
        clear hy
        go_wp2_with (refine wpList_farith rfl _ _ _ _ _ rfl rfl _ _ _ rfl rfl ?_; intro _ _ _)
        rename_i r1 j1 f1
        go_roundw
        case rel => exact ⟨k + 1, _, r1, by omega, by go_num, rfl, Lib.hid (HSk.out r1 y rfl f1), rfl⟩
        case measure => simp [intOf]; omega
      · have e := Lib.hid (show k = m by omega)
        have hr2 : Hid (cn .f32 r = sumF zs) := Lib.hid (by rw [hr.out, e.out, HE.out])
        clear hr
        go_wp2_with (first | (refine wpList_farith rfl .mul _ _ _ _ rfl rfl .f32 r st rfl rfl ?_; intro r2 j2 f2) | (go_at_call 53; refine (specNum_any _ _).mono ?_; rintro _ _ ⟨rfl, n9, rfl⟩))
        go_ret2
        exact cGiv_yes rfl (HV.out _ _ hr2.out f2) (by repeat (first | exact Bw.out | exact Below.refl _ _ | refine Below.setCell ?_ (by first | exact Nat.le_refl _ | (simp; done) | (simp; omega) | omega) _ | refine below_drewN ?_ _ | refine Below.alloc ?_ (by first | exact Nat.le_refl _ | (simp; done) | (simp; omega) | omega) _))

set_option maxRecDepth 10000 in
set_option maxHeartbeats 1600000 in
theorem implHeatB_any (s : SF) (st : Nat) (v : Value) (zs : List Nat) (w : World) (h : FRow w v zs) : Calls Try.prog 37 #[.agg #[.float .f32 s.so, .float .f32 s.fl, .float .f32 s.es, .float .f32 s.ef, .float .f32 s.pt, .float .f32 s.la, .float .f32 st, v]] w (GivB (cS (vBar s st zs) (htV st zs)) (cB (vBar s st zs) (htV st zs)) w) := by
  cases hB : vBar s st zs
  · have HB := Lib.hid hB
    clear hB
    have R := Lib.hid (fun w1 (hb : Below w.heap.size w w1) => h.below hb)
    clear h
    have A := Lib.hid (Cells.made w (bvs s st v) 42)
    have Bw := Lib.hid (below_al1 w (.cells (bvs s st v).toArray 42))
    go_enter Try.func37, Try.ntmps37
    go_wp2_with fail
    refine (implVBar_any s st v zs _ (R.out _ Bw.out)).mono ?_
    rw [HB.out]
    rintro _ w1 ⟨rfl, hb⟩
    have Bw := Lib.hid (below_step Bw.out hb)
    clear hb
    go_wp2
    go_ret2
    exact cGiv_no rfl (by repeat (first | exact Bw.out | exact Below.refl _ _ | refine Below.setCell ?_ (by first | exact Nat.le_refl _ | (simp; done) | (simp; omega) | omega) _ | refine below_drewN ?_ _ | refine Below.alloc ?_ (by first | exact Nat.le_refl _ | (simp; done) | (simp; omega) | omega) _))
  · have HB := Lib.hid hB
    have LE := Lib.hid (show zs.length ≤ 256 from Nat.le_trans (vBar_len hB).2 (by decide))
    clear hB
    have R := Lib.hid (fun w1 (hb : Below w.heap.size w w1) => h.below hb)
    clear h
    have A := Lib.hid (Cells.made w (bvs s st v) 42)
    have Bw := Lib.hid (below_al1 w (.cells (bvs s st v).toArray 42))
    go_enter Try.func37, Try.ntmps37
    go_wp2_with fail
    refine (implVBar_any s st v zs _ (R.out _ Bw.out)).mono ?_
    rw [HB.out]
    rintro _ w1 ⟨rfl, hb⟩
    have A := Lib.hid (A.out.kept hb)
    have Bw := Lib.hid (below_step Bw.out hb)
    clear hb
    have c0 := A.out.at 0 rfl
    have c1 := A.out.at 1 rfl
    have c2 := A.out.at 2 rfl
    have c3 := A.out.at 3 rfl
    have c4 := A.out.at 4 rfl
    have c5 := A.out.at 5 rfl
    have c6 := A.out.at 6 rfl
    have c7 := A.out.at 7 rfl
    go_wp2_with fail
    refine (implSum_few v zs _ (R.out _ Bw.out) LE.out).mono ?_
    rintro _ w2 ⟨r, n3, hr, rfl, rfl⟩
    have HR := Lib.hid hr
    clear hr
    go_wp2_with (first | (refine wpList_farith rfl .mul _ _ _ _ rfl rfl .f32 r st rfl rfl ?_; intro r2 j2 f2) | (go_at_call 63; refine (implNum_any _ _).mono ?_; rintro _ _ ⟨rfl, n9, rfl⟩))
    go_ret2
    exact cGiv_yes rfl (ht_of HR.out f2) (by repeat (first | exact Bw.out | exact Below.refl _ _ | refine Below.setCell ?_ (by first | exact Nat.le_refl _ | (simp; done) | (simp; omega) | omega) _ | refine below_drewN ?_ _ | refine Below.alloc ?_ (by first | exact Nat.le_refl _ | (simp; done) | (simp; omega) | omega) _))

end Go.Proofs.Ytgcgfnpkkhhkgab
