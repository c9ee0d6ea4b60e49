/- How much of a bar is molten: both sides. -/
import Derived.Test.YtgcgfnpkkhhkgabCells
import Derived.Test.YtgcgfnpkkhhkgabHeatB
import Derived.Test.YtgcgfnpkkhhkgabLooseB
namespace Go.Proofs.Ytgcgfnpkkhhkgab
open Go.RowKit
set_option linter.unusedVariables false

theorem sumF_cn (zs : List Nat) (k : Nat) : sumF (zs.take k) = sumF ((zs.map (cn .f32)).take k) := by
  induction k with
  | zero => rfl
  | succ k ih =>
    by_cases h : k < zs.length
    · rw [sumF_succ zs k h, sumF_succ (zs.map (cn .f32)) k (by simpa using h), ih]
      simp [List.getD_eq_getElem?_getD, h, cn_cn]
    · rw [List.take_of_length_le (show zs.length ≤ k + 1 by omega), List.take_of_length_le (show (zs.map (cn .f32)).length ≤ k + 1 by simp; omega)]
      rw [List.take_of_length_le (show zs.length ≤ k by omega), List.take_of_length_le (show (zs.map (cn .f32)).length ≤ k by simp; omega)] at ih
      exact ih
theorem sumF_map {zs S : List Nat} (h : zs.map (cn .f32) = S) : sumF zs = sumF S := by
  have := sumF_cn zs zs.length
  rw [List.take_length] at this
  rw [this, h, List.take_of_length_le (by rw [← h]; simp)]
theorem run_parts (a1 a2 a3 : Option Addr) (n1 n2 n3 c1 c2 c3 : Nat) (w : World) : (Instr.field 79 (.agg #[.slice a1 n1 c1, .slice a2 n2 c2, .slice a3 n3 c3]) 1).run Try.prog w = .ok (.slice a2 n2 c2) w := by kernel_rfl
/-- the parts that are molten -/
def parts (s : SF) (zs : List Nat) : List Nat := zs.map (partF s)
theorem part_step {s : SF} {zs : List Nat} {r x q k : Nat} (hk : k < zs.length) (h : cn .f32 r = sumF ((parts s zs).take k)) (hx : cn .f32 x = partF s (zs.getD k 0)) (f : FR .add .f32 r x q) : cn .f32 q = sumF ((parts s zs).take (k + 1)) := by
  rw [sumF_succ (parts s zs) k (by simpa [parts] using hk), f.1, h]
  have : (parts s zs).getD k 0 = partF s (zs.getD k 0) := by simp [parts, List.getD_eq_getElem?_getD, hk]
  rw [this, ← hx, cn_cn]

set_option maxRecDepth 10000 in
set_option maxHeartbeats 1600000 in
theorem specMeltedV_any (s : SF) (st : Nat) (v : Value) (zs : List Nat) (p : Nat) (w : World) (A : Cells w p (bvs s st v)) (h : FRow w v zs) (h1 : 1 ≤ zs.length) (h2 : zs.length ≤ 48) : Calls Try.prog 77 #[.pointer (some ⟨p, 0, none⟩)] w (Num (htV st (parts s zs)) w) := by
  have HV := Lib.hid (fun (r q : Nat) (h : cn .f32 r = sumF (parts s zs)) (f : FR .mul .f32 r st q) => ht_of h f)
  have HE : Hid ((parts s zs).take zs.length = parts s zs) := Lib.hid (List.take_of_length_le (by simp [parts]))
  have HI : Hid (cn .f32 0 = sumF ((parts s zs).take 0)) := Lib.hid rfl
  have HS := Lib.hid (fun (r x q k : Nat) (hk : k < zs.length) (h : cn .f32 r = sumF ((parts s zs).take k)) (hx : cn .f32 x = partF s (zs.getD k 0)) (f : FR .add .f32 r x q) => part_step hk h hx f)
  obtain ⟨b0, o0, k0, rfl, h0⟩ := h.cells h1
  have H0 := Lib.hid h0
  have T := Lib.hid (bvs_stuff A)
  have c0 := (A).at 0 rfl; have c1 := (A).at 1 rfl; have c2 := (A).at 2 rfl; have c3 := (A).at 3 rfl; have c4 := (A).at 4 rfl; have c5 := (A).at 5 rfl; have c6 := (A).at 6 rfl; have c7 := (A).at 7 rfl
  clear h h0 A
  generalize zs.length = m at *
  have LG := Lib.hid h2
  clear h1 h2
  go_enter Try.func77, Try.ntmps77
  go_wp2
  go_loopw [3, 4, 10] (fun x _ i wr => ∃ k q r : Nat, k ≤ m ∧ i = .int .i64 k ∧ x = .float .f32 r ∧ Hid (cn .f32 r = sumF ((parts s zs).take k)) ∧ wr = w.drewN q) (fun _ _ i _ => m - (intOf i).toNat)
  case atStart => exact ⟨0, 0, 0, Nat.zero_le _, rfl, rfl, HI, rfl⟩
  case round =>
    obtain ⟨k, q, r, hk, rfl, rfl, hr, rfl⟩ := hrel
    by_cases hlt : k < m
    · have z0 := H0.out k hlt
      have hG := LG.out
      have hi : (0 : Int) ≤ (k : Int) := by omega
      have hi' : (k : Int) < (m : Int) := by omega
      have HSk := Lib.hid (fun (x q : Nat) (hx : cn .f32 x = partF s (zs.getD k 0)) (f : FR .add .f32 r x q) => HS.out r x q k hlt hr.out hx f)
      generalize hy : zs.getD k 0 = y at *
      clear hy
      go_wp2
      refine wp_region_loose (fun _ _ v => ∃ r, cn .f32 r = partF s y ∧ v = .float .f32 r) (by kernel_rfl) (by kernel_rfl) ?_
      repeat (first | (refine wpLoose_farith rfl _ _ _ _ _ rfl rfl _ _ _ rfl rfl ?_; intro _ _) | (refine wpLoose_valK rfl ?_ (fun w1 hw1 => ?_) (fun K hK => ?_); rotate_left; (focus (obtain ⟨nq, rfl⟩ := hw1; go_simp; first | done | rfl)); go_simp; refine hK _ ?_; clear hK K))
      refine wpLoose_call rfl 57 #[.pointer (some ⟨p, 0, none⟩), .float .f32 y] (fun w1 => ?_) (fun w1 hw1 => ?_) (fun v hv => ?_)
      · go_simp
      · obtain ⟨nq, rfl⟩ := hw1
        refine (specPartV_any s y p _ ?_).mono ?_
        · exact T.out
        rintro e w2 ⟨r, hr, rfl, n, rfl⟩
        exact ⟨_, rfl, ⟨r, hr, rfl⟩, n, rfl⟩
      obtain ⟨v0, hv0, rfl⟩ := hv
      have HP := Lib.hid hv0
      clear hv0
      repeat (first | (refine wpLoose_farith rfl _ _ _ _ _ rfl rfl _ _ _ rfl rfl ?_; intro _ _) | (refine wpLoose_valK rfl ?_ (fun w1 hw1 => ?_) (fun K hK => ?_); rotate_left; (focus (obtain ⟨nq, rfl⟩ := hw1; go_simp; first | done | rfl)); go_simp; refine hK _ ?_; clear hK K))
      (refine wpLoose_nil ?_; rintro _ ⟨nq, rfl⟩)
      rename_i r1 f1
      have F1 := Lib.hid f1
      clear f1
      go_wp2
      go_roundw
      case rel => exact ⟨k + 1, _, r1, by omega, by go_num, rfl, Lib.hid (HSk.out v0 r1 HP.out F1.out), rfl⟩
      case measure => simp [intOf]; omega
    · have e := Lib.hid (show k = m by omega)
      have hr2 : Hid (cn .f32 r = sumF (parts s zs)) := Lib.hid (by rw [hr.out, e.out, HE.out])
      clear hr
      go_wp2_with (refine wpList_farith rfl .mul _ _ _ _ rfl rfl .f32 r st rfl rfl ?_; intro r2 j2 f2)
      go_ret
      exact ⟨_, HV.out _ _ hr2.out f2, rfl, _, rfl⟩

set_option maxRecDepth 10000 in
set_option maxHeartbeats 1600000 in
theorem specMeltB_any (s : SF) (st : Nat) (v : Value) (zs : List Nat) (w : World) (h : FRow w v zs) : Calls Try.prog 38 #[.agg #[.float .f32 s.so, .float .f32 s.fl, .float .f32 s.es, .float .f32 s.ef, .float .f32 s.pt, .float .f32 s.la, .float .f32 st, v]] w (GivB (cS (vBar s st zs) (htV st (parts s zs))) (cB (vBar s st zs) (htV st (parts s zs))) w) := by
  have R := Lib.hid (fun w1 (hb : Below w.heap.size w w1) => h.below hb)
  clear h
  have A := Lib.hid (Cells.made w (bvs s st v) 42)
  have Bw := Lib.hid (below_al1 w (.cells (bvs s st v).toArray 42))
  cases hB : vBar s st zs
  · have HB := Lib.hid hB
    clear hB
    go_enter Try.func38, Try.ntmps38
    go_wp2_with fail
    refine (specBar_any s st v zs _ _ A.out (R.out _ Bw.out)).mono ?_
    rw [HB.out]
    rintro e w' ⟨rfl, n, rfl⟩
    go_wp2
    go_ret2
    exact cGiv_no rfl (by repeat (first | exact Bw.out | exact Below.refl _ _ | refine Below.setCell ?_ (by first | exact Nat.le_refl _ | (simp; done) | (simp; omega) | omega) _ | refine below_drewN ?_ _ | refine Below.alloc ?_ (by first | exact Nat.le_refl _ | (simp; done) | (simp; omega) | omega) _))
  · have HB := Lib.hid hB
    have LE := Lib.hid (vBar_len hB)
    clear hB
    go_enter Try.func38, Try.ntmps38
    go_wp2_with fail
    refine (specBar_any s st v zs _ _ A.out (R.out _ Bw.out)).mono ?_
    rw [HB.out]
    rintro e w' ⟨rfl, n, rfl⟩
    go_wp2_with fail
    refine (specMeltedV_any s st v zs _ _ (A.out.drewN) (R.out _ (below_drewN Bw.out _)) LE.out.1 LE.out.2).mono ?_
    rintro e w' ⟨r, hr, rfl, n2, rfl⟩
    have HR := Lib.hid hr
    clear hr
    go_wp2_with fail
    refine (specNum_any _ _).mono ?_
    rintro _ _ ⟨rfl, n9, rfl⟩
    go_wp2
    go_ret2
    exact cGiv_yes rfl HR.out (by repeat (first | exact Bw.out | exact Below.refl _ _ | refine Below.setCell ?_ (by first | exact Nat.le_refl _ | (simp; done) | (simp; omega) | omega) _ | refine below_drewN ?_ _ | refine Below.alloc ?_ (by first | exact Nat.le_refl _ | (simp; done) | (simp; omega) | omega) _))

set_option maxRecDepth 10000 in
set_option maxHeartbeats 1600000 in
theorem implMeltB_any (s : SF) (st : Nat) (v : Value) (zs : List Nat) (w : World) (h : FRow w v zs) : Calls Try.prog 39 #[.agg #[.float .f32 s.so, .float .f32 s.fl, .float .f32 s.es, .float .f32 s.ef, .float .f32 s.pt, .float .f32 s.la, .float .f32 st, v]] w (GivB (cS (vBar s st zs) (htV st (parts s zs))) (cB (vBar s st zs) (htV st (parts s zs))) w) := by
  have R := Lib.hid (fun w1 (hb : Below w.heap.size w w1) => h.below hb)
  clear h
  have A := Lib.hid (Cells.made w (bvs s st v) 42)
  have Bw := Lib.hid (below_al1 w (.cells (bvs s st v).toArray 42))
  cases hB : vBar s st zs
  · have HB := Lib.hid hB
    clear hB
    go_enter Try.func39, Try.ntmps39
    go_wp2_with fail
    refine (implVBar_any s st v zs _ (R.out _ Bw.out)).mono ?_
    rw [HB.out]
    rintro _ w1 ⟨rfl, hb⟩
    have Bw := Lib.hid (below_step Bw.out hb)
    clear hb
    go_wp2
    go_ret2
    exact cGiv_no rfl (by repeat (first | exact Bw.out | exact Below.refl _ _ | refine Below.setCell ?_ (by first | exact Nat.le_refl _ | (simp; done) | (simp; omega) | omega) _ | refine below_drewN ?_ _ | refine Below.alloc ?_ (by first | exact Nat.le_refl _ | (simp; done) | (simp; omega) | omega) _))
  · have HB := Lib.hid hB
    have LE := Lib.hid (vBar_len hB)
    clear hB
    go_enter Try.func39, Try.ntmps39
    go_wp2_with fail
    refine (implVBar_any s st v zs _ (R.out _ Bw.out)).mono ?_
    rw [HB.out]
    rintro _ w1 ⟨rfl, hb⟩
    have A := Lib.hid (A.out.kept hb)
    have Bw := Lib.hid (below_step Bw.out hb)
    clear hb
    have c0 := (A.out).at 0 rfl; have c1 := (A.out).at 1 rfl; have c2 := (A.out).at 2 rfl; have c3 := (A.out).at 3 rfl; have c4 := (A.out).at 4 rfl; have c5 := (A.out).at 5 rfl; have c6 := (A.out).at 6 rfl; have c7 := (A.out).at 7 rfl
    go_wp2_with fail
    refine (cellsOf_any s st v zs _ (R.out _ Bw.out) LE.out.1 LE.out.2).mono ?_
    rintro _ w2 ⟨va, vb, vc, rfl, ⟨ws, has, _⟩, ⟨ps, hps, hm⟩, ⟨es, hes, _⟩, hb⟩
    obtain ⟨x1, y1, rfl⟩ := has.shape
    obtain ⟨x2, y2, rfl⟩ := hps.shape
    obtain ⟨x3, y3, rfl⟩ := hes.shape
    clear has hes
    have HM := Lib.hid (show ps.map (cn .f32) = parts s zs from hm)
    have HL : Hid (ps.length ≤ 256) := Lib.hid (by have := congrArg List.length HM.out; simp [parts] at this; have := LE.out.2; omega)
    have HPS := Lib.hid hps
    have A := Lib.hid (A.out.kept hb)
    have Bw := Lib.hid (below_step Bw.out hb)
    clear hb hm hps c0 c1 c2 c3 c4 c5 c6 c7
    have c0 := (A.out).at 0 rfl; have c1 := (A.out).at 1 rfl; have c2 := (A.out).at 2 rfl; have c3 := (A.out).at 3 rfl; have c4 := (A.out).at 4 rfl; have c5 := (A.out).at 5 rfl; have c6 := (A.out).at 6 rfl; have c7 := (A.out).at 7 rfl
    go_wp2_with fail
    rw [run_parts]
    go_wp2_with fail
    refine (implSum_few _ ps _ HPS.out HL.out).mono ?_
    rintro _ w3 ⟨r, n3, hr, rfl, rfl⟩
    have HR : Hid (cn .f32 r = sumF (parts s zs)) := Lib.hid (by rw [hr, sumF_map HM.out])
    clear hr
    go_wp2_with (first | (refine wpList_farith rfl .mul _ _ _ _ rfl rfl .f32 r st rfl rfl ?_; intro r2 j2 f2) | (go_at_call 63; refine (implNum_any _ _).mono ?_; rintro _ _ ⟨rfl, n9, rfl⟩))
    go_ret2
    exact cGiv_yes rfl (ht_of HR.out f2) (by repeat (first | exact Bw.out | exact Below.refl _ _ | refine Below.setCell ?_ (by first | exact Nat.le_refl _ | (simp; done) | (simp; omega) | omega) _ | refine below_drewN ?_ _ | refine Below.alloc ?_ (by first | exact Nat.le_refl _ | (simp; done) | (simp; omega) | omega) _))
end Go.Proofs.Ytgcgfnpkkhhkgab
