/- A rod copied into one block of its own. -/
import Derived.Test.YtkbdidpodcclfaaPut2
import Derived.Test.YtkbdidpodcclfaaRodX
import Derived.Test.YtkbdidpodcclfaaGiveI
import Derived.Test.YtkbdidpodcclfaaNew
namespace Go.Proofs.Ytkbdidpodcclfaa
open Go.RowKit
set_option linter.unusedVariables false

theorem cp_all (f : Nat → Nat) (n : Nat) (r : RL) (i : Nat) (hi : i < 4 * n) : cpF (cpF (cpF (cpF f 0 n (fun i => r.W.getD i 0)) (n + 0) n (fun i => r.E.getD i 0)) (2 * n + 0) n (fun i => r.H.getD i 0)) (3 * n + 0) n (fun i => r.T.getD i 0) i = rlF n r i := by
  unfold cpF rlF
  repeat' split
  all_goals first | rfl | omega
set_option maxHeartbeats 3200000 in
set_option maxRecDepth 4000 in
theorem copyRod_any {n b0 o0 k0 b1 o1 k1 b2 o2 k2 b3 o3 k3 : Nat} (r : RL) (w : World) (hL : Lay w n b0 o0 k0 b1 o1 k1 b2 o2 k2 b3 o3 k3 r) (hn : 1 ≤ n) (hq : n ≤ 48) :
    Calls Try.prog 49 #[.agg #[.slice (some ⟨b0, o0, none⟩) n k0, .slice (some ⟨b1, o1, none⟩) n k1, .slice (some ⟨b2, o2, none⟩) n k2, .slice (some ⟨b3, o3, none⟩) n k3]] w fun e w' => ∃ g, e = .returned (inBlk g n) ∧ w.heap.size ≤ g ∧ w'.rowIs g 22 (4 * n) (fun i => .float .f32 (rlF n r i)) ∧ Below w.heap.size w w' := by
  have l0 := Lib.hid (cell_lt (hL.W 0 hn))
  have l1 := Lib.hid (cell_lt (hL.E 0 hn))
  have l2 := Lib.hid (cell_lt (hL.H 0 hn))
  have l3 := Lib.hid (cell_lt (hL.T 0 hn))
  have HN := Lib.hid hn
  have HQ := Lib.hid hq
  have LY := Lib.hid (hL.below (below_al2 w (.cells [.slice (some ⟨b0, o0, none⟩) n k0, .slice (some ⟨b1, o1, none⟩) n k1, .slice (some ⟨b2, o2, none⟩) n k2, .slice (some ⟨b3, o3, none⟩) n k3].toArray 25) (.cells [.slice none 0 0, .slice none 0 0, .slice none 0 0, .slice none 0 0].toArray 25)))
  have A := Lib.hid ((Cells.made w [.slice (some ⟨b0, o0, none⟩) n k0, .slice (some ⟨b1, o1, none⟩) n k1, .slice (some ⟨b2, o2, none⟩) n k2, .slice (some ⟨b3, o3, none⟩) n k3] 25).al (.cells [.slice none 0 0, .slice none 0 0, .slice none 0 0, .slice none 0 0].toArray 25))
  have R := Cells.made (w.alloc (.cells [.slice (some ⟨b0, o0, none⟩) n k0, .slice (some ⟨b1, o1, none⟩) n k1, .slice (some ⟨b2, o2, none⟩) n k2, .slice (some ⟨b3, o3, none⟩) n k3].toArray 25)) [.slice none 0 0, .slice none 0 0, .slice none 0 0, .slice none 0 0] 25
  rw [show (w.alloc (.cells [.slice (some ⟨b0, o0, none⟩) n k0, .slice (some ⟨b1, o1, none⟩) n k1, .slice (some ⟨b2, o2, none⟩) n k2, .slice (some ⟨b3, o3, none⟩) n k3].toArray 25)).heap.size = w.heap.size + 1 from by simp] at R
  have R := Lib.hid R
  have Bw := Lib.hid (below_al2 w (.cells [.slice (some ⟨b0, o0, none⟩) n k0, .slice (some ⟨b1, o1, none⟩) n k1, .slice (some ⟨b2, o2, none⟩) n k2, .slice (some ⟨b3, o3, none⟩) n k3].toArray 25) (.cells [.slice none 0 0, .slice none 0 0, .slice none 0 0, .slice none 0 0].toArray 25))
  have Z : Hid (((w.alloc (.cells [.slice (some ⟨b0, o0, none⟩) n k0, .slice (some ⟨b1, o1, none⟩) n k1, .slice (some ⟨b2, o2, none⟩) n k2, .slice (some ⟨b3, o3, none⟩) n k3].toArray 25)).alloc (.cells [.slice none 0 0, .slice none 0 0, .slice none 0 0, .slice none 0 0].toArray 25)).heap.size = w.heap.size + 2) := Lib.hid (by simp)
  clear hL hn hq
  go_enter Try.func49, Try.ntmps49
  go_wp2_with fail
  generalize hW : ((w.alloc (.cells [.slice (some ⟨b0, o0, none⟩) n k0, .slice (some ⟨b1, o1, none⟩) n k1, .slice (some ⟨b2, o2, none⟩) n k2, .slice (some ⟨b3, o3, none⟩) n k3].toArray 25)).alloc (.cells [.slice none 0 0, .slice none 0 0, .slice none 0 0, .slice none 0 0].toArray 25)) = w2 at *
  clear hW
  refine (newRod_any n _ HN.out (by have := HQ.out; omega)).mono ?_
  rintro _ w3 ⟨g, rfl, hg, hr, hb⟩
  have GG : Hid (w.heap.size + 2 ≤ g) := Lib.hid (by have := Z.out; omega)
  have LY := Lib.hid ((LY.out.below hb).below (below_al1 w3 (.cells [.slice (some ⟨g, 0, none⟩) n n, .slice (some ⟨g, n, none⟩) n n, .slice (some ⟨g, 2 * n, none⟩) n n, .slice (some ⟨g, 3 * n, none⟩) n n].toArray 25)))
  have A := Lib.hid ((A.out.kept hb).al (.cells [.slice (some ⟨g, 0, none⟩) n n, .slice (some ⟨g, n, none⟩) n n, .slice (some ⟨g, 2 * n, none⟩) n n, .slice (some ⟨g, 3 * n, none⟩) n n].toArray 25))
  have R := Lib.hid ((R.out.kept hb).al (.cells [.slice (some ⟨g, 0, none⟩) n n, .slice (some ⟨g, n, none⟩) n n, .slice (some ⟨g, 2 * n, none⟩) n n, .slice (some ⟨g, 3 * n, none⟩) n n].toArray 25))
  have B3 := Lib.hid (below_trans2 Bw.out (by have := Z.out; omega) hb)
  have B3 := Lib.hid (B3.out.alloc B3.out.size (.cells [.slice (some ⟨g, 0, none⟩) n n, .slice (some ⟨g, n, none⟩) n n, .slice (some ⟨g, 2 * n, none⟩) n n, .slice (some ⟨g, 3 * n, none⟩) n n].toArray 25))
  have G := Lib.hid (Cells.made w3 [.slice (some ⟨g, 0, none⟩) n n, .slice (some ⟨g, n, none⟩) n n, .slice (some ⟨g, 2 * n, none⟩) n n, .slice (some ⟨g, 3 * n, none⟩) n n] 25)
  have NG : Hid (¬ w3.heap.size = g) := Lib.hid (by have := hr.lt; omega)
  have RO := Lib.hid (rowIs_below hr (below_al1 w3 (.cells [.slice (some ⟨g, 0, none⟩) n n, .slice (some ⟨g, n, none⟩) n n, .slice (some ⟨g, 2 * n, none⟩) n n, .slice (some ⟨g, 3 * n, none⟩) n n].toArray 25)))
  clear hg hr hb
  unfold inBlk
  have c0 := A.out.at 0 rfl; have c1 := A.out.at 1 rfl; have c2 := A.out.at 2 rfl; have c3 := A.out.at 3 rfl; have d0 := G.out.at 0 rfl; have d1 := G.out.at 1 rfl; have d2 := G.out.at 2 rfl; have d3 := G.out.at 3 rfl
  go_wp2_with fail
  generalize hW : w3.alloc (.cells [.slice (some ⟨g, 0, none⟩) n n, .slice (some ⟨g, n, none⟩) n n, .slice (some ⟨g, 2 * n, none⟩) n n, .slice (some ⟨g, 3 * n, none⟩) n n].toArray 25) = w4 at *
  clear hW
  refine (put_any g n 0 (fun _ => 0) r _ LY.out RO.out (by have := HQ.out; omega) (by omega) HN.out (by have := l0.out; have := GG.out; omega) (by have := l1.out; have := GG.out; omega) (by have := l2.out; have := GG.out; omega) (by have := l3.out; have := GG.out; omega)).mono ?_
  rintro _ w5 ⟨rfl, hr, ht⟩
  have RO := Lib.hid (hr.congr (fun i hi => by rw [cp_all _ n r i hi]))
  have NW : Hid (¬ w.heap.size + 1 = g) := Lib.hid (by have := GG.out; omega)
  have R := Lib.hid (ht.cells R.out NW.out)
  have G := Lib.hid (ht.cells G.out NG.out)
  have B5 := Lib.hid (B3.out.trans (ht.below (B := w.heap.size) (fun k (hk : k = g) => by have := GG.out; omega) B3.out.size))
  clear hr ht c0 c1 c2 c3 d0 d1 d2 d3
  have d0 := G.out.at 0 rfl; have d1 := G.out.at 1 rfl; have d2 := G.out.at 2 rfl; have d3 := G.out.at 3 rfl
  have r0 := R.out.at 0 rfl; have r1 := R.out.at 1 rfl; have r2 := R.out.at 2 rfl; have r3 := R.out.at 3 rfl; have rf := R.out.fz
  go_wp2
  refine bodyPost_ret (v := .agg #[.slice (some ⟨g, 0, none⟩) n n, .slice (some ⟨g, n, none⟩) n n, .slice (some ⟨g, 2 * n, none⟩) n n, .slice (some ⟨g, 3 * n, none⟩) n n]) ?_ rfl ?_
  · rw [results_cell1 rfl]
    go_simp
  · have hg := GG.out
    exact ⟨g, rfl, by omega, rowIs_far (rowIs_far (rowIs_far (rowIs_far RO.out (by omega)) (by omega)) (by omega)) (by omega), below_set4n B5.out (by omega) _ _ _ _⟩
end Go.Proofs.Ytkbdidpodcclfaa
