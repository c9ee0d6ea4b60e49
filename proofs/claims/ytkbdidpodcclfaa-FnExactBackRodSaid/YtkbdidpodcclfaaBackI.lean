/- A rod in the opposite order, as the program makes it. -/
import Derived.Test.YtkbdidpodcclfaaCopyR
import Derived.Test.YtkbdidpodcclfaaRev
import Derived.Test.YtkbdidpodcclfaaBackS
namespace Go.Proofs.Ytkbdidpodcclfaa
open Go.RowKit
set_option linter.unusedVariables false

theorem rvF_out {F : Nat → Nat} {o n i : Nat} (h : i < o ∨ o + n ≤ i) : rvF F o n i = F i := by unfold rvF; rw [if_neg (by omega)]
theorem rvF_in {F : Nat → Nat} {o n j : Nat} (h : j < n) : rvF F o n (o + j) = F (o + (n - 1 - j)) := by unfold rvF; rw [if_pos (by omega)]; congr 1; omega
theorem rlF_0 {n j : Nat} {r : RL} (h : j < n) : rlF n r j = r.W.getD j 0 := by unfold rlF; rw [if_pos h]
theorem rlF_1 {n j : Nat} {r : RL} (h : j < n) : rlF n r (n + j) = r.E.getD j 0 := by unfold rlF; rw [if_neg (by omega), if_pos (by omega), show n + j - n = j by omega]
theorem rlF_2 {n j : Nat} {r : RL} (h : j < n) : rlF n r (2 * n + j) = r.H.getD j 0 := by unfold rlF; rw [if_neg (by omega), if_neg (by omega), if_pos (by omega), show 2 * n + j - 2 * n = j by omega]
theorem rlF_3 {n j : Nat} {r : RL} (h : j < n) : rlF n r (3 * n + j) = r.T.getD j 0 := by unfold rlF; rw [if_neg (by omega), if_neg (by omega), if_neg (by omega), show 3 * n + j - 3 * n = j by omega]
theorem rv_all (n : Nat) (r : RL) (h0 : r.W.length = n) (h1 : r.E.length = n) (h2 : r.H.length = n) (h3 : r.T.length = n) (i : Nat) (hi : i < 4 * n) : rvF (rvF (rvF (rvF (rlF n r) 0 n) n n) (2 * n) n) (3 * n) n i = rlF n (backRL r) i := by
  have key : ∀ zs : List Nat, zs.length = n → ∀ j, j < n → zs.reverse.getD j 0 = zs.getD (n - 1 - j) 0 := by
    intro zs hz j hj
    simp [List.getD_eq_getElem?_getD, List.getElem?_reverse (show j < zs.length by omega), hz]
  by_cases a1 : i < n
  · rw [rvF_out (by omega), rvF_out (by omega), rvF_out (by omega), rlF_0 a1, show (backRL r).W = r.W.reverse from rfl, key _ h0 _ a1]
    have := rvF_in (F := rlF n r) (o := 0) (n := n) (j := i) a1
    rw [Nat.zero_add, Nat.zero_add] at this
    rw [this, rlF_0 (by omega)]
  · by_cases a2 : i < 2 * n
    · obtain ⟨j, rfl⟩ : ∃ j, i = n + j := ⟨i - n, by omega⟩
      rw [rvF_out (by omega), rvF_out (by omega), rvF_in (by omega), rvF_out (by omega), rlF_1 (by omega), rlF_1 (by omega), show (backRL r).E = r.E.reverse from rfl, key _ h1 _ (by omega)]
    · by_cases a3 : i < 3 * n
      · obtain ⟨j, rfl⟩ : ∃ j, i = 2 * n + j := ⟨i - 2 * n, by omega⟩
        rw [rvF_out (by omega), rvF_in (by omega), rvF_out (by omega), rvF_out (by omega), rlF_2 (by omega), rlF_2 (by omega), show (backRL r).H = r.H.reverse from rfl, key _ h2 _ (by omega)]
      · obtain ⟨j, rfl⟩ : ∃ j, i = 3 * n + j := ⟨i - 3 * n, by omega⟩
        rw [rvF_in (by omega), rvF_out (by omega), rvF_out (by omega), rvF_out (by omega), rlF_3 (by omega), rlF_3 (by omega), show (backRL r).T = r.T.reverse from rfl, key _ h3 _ (by omega)]

set_option maxHeartbeats 1600000 in
set_option maxRecDepth 8000 in
theorem implBack_any (a b c d : Value) (r : RL) (w : World) (h : RRow w a b c d r) : Calls Try.prog 21 #[.agg #[a, b, c, d]] w (RdO (vRod r) (bif vRod r then backRL r else nilRL) w) := by
  unfold RdO
  cases hv : vRod r
  · obtain ⟨a0, q0, rfl⟩ := h.W.shape
    obtain ⟨a1, q1, rfl⟩ := h.E.shape
    obtain ⟨a2, q2, rfl⟩ := h.H.shape
    obtain ⟨a3, q3, rfl⟩ := h.T.shape
    generalize hm0 : r.W.length = m0 at *
    generalize hm1 : r.E.length = m1 at *
    generalize hm2 : r.H.length = m2 at *
    generalize hm3 : r.T.length = m3 at *
    clear hm0 hm1 hm2 hm3
    have AR4 : ∃ x, [Value.slice a0 m0 q0, .slice a1 m1 q1, .slice a2 m2 q2, .slice a3 m3 q3] = x := ⟨_, rfl⟩
    clear AR4
    have H := Lib.hid (h.below (below_al2 w (.cells [Value.slice a0 m0 q0, .slice a1 m1 q1, .slice a2 m2 q2, .slice a3 m3 q3].toArray 25) (.cells [Value.slice none 0 0, .slice none 0 0, .slice none 0 0, .slice none 0 0].toArray 25)))
    have R := Cells.made (w.alloc (.cells [Value.slice a0 m0 q0, .slice a1 m1 q1, .slice a2 m2 q2, .slice a3 m3 q3].toArray 25)) [.slice none 0 0, .slice none 0 0, .slice none 0 0, .slice none 0 0] 25
    rw [show (w.alloc (.cells [Value.slice a0 m0 q0, .slice a1 m1 q1, .slice a2 m2 q2, .slice a3 m3 q3].toArray 25)).heap.size = w.heap.size + 1 from by simp] at R
    have R := Lib.hid R
    have Bw := Lib.hid (below_al2 w (.cells [Value.slice a0 m0 q0, .slice a1 m1 q1, .slice a2 m2 q2, .slice a3 m3 q3].toArray 25) (.cells [Value.slice none 0 0, .slice none 0 0, .slice none 0 0, .slice none 0 0].toArray 25))
    have HV := Lib.hid hv
    clear hv h
    go_enter Try.func21, Try.ntmps21
    go_wp2_with fail
    refine (implValid_any _ _ _ _ r _ H.out).mono ?_
    rw [HV.out]
    rintro _ w3 ⟨rfl, hb⟩
    have R := Lib.hid (R.out.kept hb)
    have Bw := Lib.hid (below_step Bw.out hb)
    clear hb
    have r0 := R.out.at 0 rfl; have r1 := R.out.at 1 rfl; have r2 := R.out.at 2 rfl; have r3 := R.out.at 3 rfl; have rf := R.out.fz
    go_wp2
    refine bodyPost_ret (v := .tuple #[.agg #[.slice none 0 0, .slice none 0 0, .slice none 0 0, .slice none 0 0], .bool false]) ?_ rfl ?_
    · rw [results_cell_tmp rfl]
      go_simp
    · have hb := below_set4n Bw.out (p := w.heap.size + 1) (by omega) (.slice none 0 0) (.slice none 0 0) (.slice none 0 0) (.slice none 0 0)
      exact ⟨_, _, _, _, rfl, RodX.nil hb.size, hb⟩
  · have LN := Len.ofV hv
    obtain ⟨b0, o0, k0, b1, o1, k1, b2, o2, k2, b3, o3, k3, rfl, rfl, rfl, rfl, hL⟩ := h.lay LN
    obtain ⟨n, hn⟩ : ∃ n, r.W.length = n := ⟨_, rfl⟩
    rw [hn] at LN hL h ⊢
    have hp := LN.p
    have hq := LN.q
    have HP := Lib.hid hp
    have HQ := Lib.hid hq
    have RV := Lib.hid (rv_all n r LN.W LN.E LN.H LN.T)
    have LE := Lib.hid (show (backRL r).W.length = n ∧ (backRL r).E.length = n ∧ (backRL r).H.length = n ∧ (backRL r).T.length = n from by simp [backRL, LN.W, LN.E, LN.H, LN.T])
    have hb2 := below_al2 w (.cells [Value.slice (some ⟨b0, o0, none⟩) n k0, .slice (some ⟨b1, o1, none⟩) n k1, .slice (some ⟨b2, o2, none⟩) n k2, .slice (some ⟨b3, o3, none⟩) n k3].toArray 25) (.cells [Value.slice none 0 0, .slice none 0 0, .slice none 0 0, .slice none 0 0].toArray 25)
    have H := Lib.hid (h.below hb2)
    have LY := Lib.hid (hL.below hb2)
    have A := Lib.hid ((Cells.made w [.slice (some ⟨b0, o0, none⟩) n k0, .slice (some ⟨b1, o1, none⟩) n k1, .slice (some ⟨b2, o2, none⟩) n k2, .slice (some ⟨b3, o3, none⟩) n k3] 25).al (.cells [Value.slice none 0 0, .slice none 0 0, .slice none 0 0, .slice none 0 0].toArray 25))
    have R := Cells.made (w.alloc (.cells [Value.slice (some ⟨b0, o0, none⟩) n k0, .slice (some ⟨b1, o1, none⟩) n k1, .slice (some ⟨b2, o2, none⟩) n k2, .slice (some ⟨b3, o3, none⟩) n k3].toArray 25)) [.slice none 0 0, .slice none 0 0, .slice none 0 0, .slice none 0 0] 25
    rw [show (w.alloc (.cells [Value.slice (some ⟨b0, o0, none⟩) n k0, .slice (some ⟨b1, o1, none⟩) n k1, .slice (some ⟨b2, o2, none⟩) n k2, .slice (some ⟨b3, o3, none⟩) n k3].toArray 25)).heap.size = w.heap.size + 1 from by simp] at R
    have R := Lib.hid R
    have Bw := Lib.hid hb2
    have HV := Lib.hid hv
    clear hv h hL LN hn hb2 hp hq
    go_enter Try.func21, Try.ntmps21
    go_wp2_with fail
    refine (implValid_any _ _ _ _ r _ H.out).mono ?_
    rw [HV.out]
    rintro _ w3 ⟨rfl, hb⟩
    have R := Lib.hid (R.out.kept hb)
    have A := Lib.hid (A.out.kept hb)
    have LY := Lib.hid (LY.out.below hb)
    have Bw := Lib.hid (below_step Bw.out hb)
    clear hb
    have c0 := A.out.at 0 rfl; have c1 := A.out.at 1 rfl; have c2 := A.out.at 2 rfl; have c3 := A.out.at 3 rfl
    go_wp2_with fail
    refine (copyRod_any r _ LY.out HP.out HQ.out).mono ?_
    rintro _ w4 ⟨g, rfl, hg, hr, hb⟩
    have RT := Lib.hid (Nat.lt_of_lt_of_le R.out.lt hg)
    have R := Lib.hid (R.out.kept hb)
    have Bw := Lib.hid (below_step Bw.out hb)
    have ha := below_al1 w4 (.cells [Value.slice (some ⟨g, 0, none⟩) n n, .slice (some ⟨g, n, none⟩) n n, .slice (some ⟨g, 2 * n, none⟩) n n, .slice (some ⟨g, 3 * n, none⟩) n n].toArray 25)
    have G := Lib.hid (Cells.made w4 [.slice (some ⟨g, 0, none⟩) n n, .slice (some ⟨g, n, none⟩) n n, .slice (some ⟨g, 2 * n, none⟩) n n, .slice (some ⟨g, 3 * n, none⟩) n n] 25)
    have NG : Hid (¬ w4.heap.size = g) := Lib.hid (by have := hr.lt; omega)
    have RN : Hid (w.heap.size + 1 < w4.heap.size) := Lib.hid R.out.lt
    have RO := Lib.hid (rowIs_below hr ha)
    have R := Lib.hid (R.out.kept ha)
    have Bw := Lib.hid (below_step Bw.out ha)
    clear hr hb hg c0 c1 c2 c3 ha
    unfold inBlk
    have e00 := G.out.at 0 rfl; have e01 := G.out.at 1 rfl; have e02 := G.out.at 2 rfl; have e03 := G.out.at 3 rfl
    go_wp2_with fail
    generalize hW : w4.alloc (.cells [Value.slice (some ⟨g, 0, none⟩) n n, .slice (some ⟨g, n, none⟩) n n, .slice (some ⟨g, 2 * n, none⟩) n n, .slice (some ⟨g, 3 * n, none⟩) n n].toArray 25) = w5 at *
    clear hW
    refine (reverse_any g 0 n (4 * n) n _ _ RO.out (by omega) HP.out (by have := HQ.out; omega)).mono ?_
    rintro _ w6 ⟨rfl, hr, ht⟩
    have RO := Lib.hid hr
    have G := Lib.hid (ht.cells G.out NG.out)
    have R := Lib.hid (ht.cells R.out (by intro e; have e' : w.heap.size + 1 = g := e; have := RT.out; omega))
    have Bw := Lib.hid (Bw.out.trans (ht.below (B := w.heap.size) (fun k (hk : k = g) => by have := RT.out; omega) Bw.out.size))
    clear hr ht e00 e01 e02 e03
    have e10 := G.out.at 0 rfl; have e11 := G.out.at 1 rfl; have e12 := G.out.at 2 rfl; have e13 := G.out.at 3 rfl
    go_wp2_with fail
    refine (reverse_any g n n (4 * n) n _ _ RO.out (by omega) HP.out (by have := HQ.out; omega)).mono ?_
    rintro _ w7 ⟨rfl, hr, ht⟩
    have RO := Lib.hid hr
    have G := Lib.hid (ht.cells G.out NG.out)
    have R := Lib.hid (ht.cells R.out (by intro e; have e' : w.heap.size + 1 = g := e; have := RT.out; omega))
    have Bw := Lib.hid (Bw.out.trans (ht.below (B := w.heap.size) (fun k (hk : k = g) => by have := RT.out; omega) Bw.out.size))
    clear hr ht e10 e11 e12 e13
    have e20 := G.out.at 0 rfl; have e21 := G.out.at 1 rfl; have e22 := G.out.at 2 rfl; have e23 := G.out.at 3 rfl
    go_wp2_with fail
    refine (reverse_any g (2 * n) n (4 * n) n _ _ RO.out (by omega) HP.out (by have := HQ.out; omega)).mono ?_
    rintro _ w8 ⟨rfl, hr, ht⟩
    have RO := Lib.hid hr
    have G := Lib.hid (ht.cells G.out NG.out)
    have R := Lib.hid (ht.cells R.out (by intro e; have e' : w.heap.size + 1 = g := e; have := RT.out; omega))
    have Bw := Lib.hid (Bw.out.trans (ht.below (B := w.heap.size) (fun k (hk : k = g) => by have := RT.out; omega) Bw.out.size))
    clear hr ht e20 e21 e22 e23
    have e30 := G.out.at 0 rfl; have e31 := G.out.at 1 rfl; have e32 := G.out.at 2 rfl; have e33 := G.out.at 3 rfl
    go_wp2_with fail
    refine (reverse_any g (3 * n) n (4 * n) n _ _ RO.out (by omega) HP.out (by have := HQ.out; omega)).mono ?_
    rintro _ w9 ⟨rfl, hr, ht⟩
    have RO := Lib.hid hr
    have G := Lib.hid (ht.cells G.out NG.out)
    have R := Lib.hid (ht.cells R.out (by intro e; have e' : w.heap.size + 1 = g := e; have := RT.out; omega))
    have Bw := Lib.hid (Bw.out.trans (ht.below (B := w.heap.size) (fun k (hk : k = g) => by have := RT.out; omega) Bw.out.size))
    clear hr ht e30 e31 e32 e33
    have e0 := G.out.at 0 rfl; have e1 := G.out.at 1 rfl; have e2 := G.out.at 2 rfl; have e3 := G.out.at 3 rfl
    have r0 := R.out.at 0 rfl; have r1 := R.out.at 1 rfl; have r2 := R.out.at 2 rfl; have r3 := R.out.at 3 rfl; have rf := R.out.fz
    go_wp2
    refine bodyPost_ret (v := .tuple #[.agg #[.slice (some ⟨g, 0, none⟩) n n, .slice (some ⟨g, n, none⟩) n n, .slice (some ⟨g, 2 * n, none⟩) n n, .slice (some ⟨g, 3 * n, none⟩) n n], .bool true]) ?_ rfl ?_
    · rw [results_cell_tmp rfl]
      go_simp
    · have h1 := RT.out
      have h2 := RO.out.lt
      have hb := below_set4n Bw.out (p := w.heap.size + 1) (by omega) (.slice (some ⟨g, 0, none⟩) n n) (.slice (some ⟨g, n, none⟩) n n) (.slice (some ⟨g, 2 * n, none⟩) n n) (.slice (some ⟨g, 3 * n, none⟩) n n)
      refine ⟨_, _, _, _, rfl, .inr ⟨g, n, by omega, by simpa using h2, HQ.out, LE.out, ⟨rfl, rfl, rfl, rfl⟩, ?_⟩, hb⟩
      exact (rowIs_far (rowIs_far (rowIs_far (rowIs_far RO.out (by omega)) (by omega)) (by omega)) (by omega)).congr (fun i hi => congrArg (Value.float .f32) (RV.out i hi))
end Go.Proofs.Ytkbdidpodcclfaa
