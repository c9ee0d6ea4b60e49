/- A rod of n cells without numbers: four lists in one block, cut by a closure. -/
import Derived.Test.YtkbdidpodcclfaaMark
import Derived.Test.YtkbdidpodcclfaaCut
namespace Go.Proofs.Ytkbdidpodcclfaa
open Go.RowKit
set_option linter.unusedVariables false

theorem below_set4n {w w' : World} {B p : Nat} (h : Below B w w') (hp : B ≤ p) (x0 x1 x2 x3 : Value) : Below B w ((((w'.setCell ⟨p, 0, none⟩ x0).setCell ⟨p, 1, none⟩ x1).setCell ⟨p, 2, none⟩ x2).setCell ⟨p, 3, none⟩ x3) :=
  (((h.setCell (p := ⟨p, 0, none⟩) hp x0).setCell (p := ⟨p, 1, none⟩) hp x1).setCell (p := ⟨p, 2, none⟩) hp x2).setCell (p := ⟨p, 3, none⟩) hp x3
/-- a rod of zeros in one block of its own -/
def ZeroRod (n : Nat) (w : World) (e : Ending) (w' : World) : Prop := ∃ g, e = .returned (inBlk g n) ∧ w.heap.size ≤ g ∧ w'.rowIs g 22 (4 * n) (fun _ => .float .f32 0) ∧ Below w.heap.size w w'

set_option maxHeartbeats 1600000 in
theorem newRod_any (n : Nat) (w : World) (hn : 1 ≤ n) (hq : n ≤ 96) : Calls Try.prog 41 #[.int .i64 n] w (ZeroRod n w) := by
  unfold ZeroRod inBlk
  have C0 := fun (q1 q2 g : Nat) (w : World) c1 c2 => cut_any 0 0 n (4 * n) q1 q2 g w c1 c2 (by omega) (by omega) (by omega) (by omega) (by omega) (by omega) hn
  have C1 := fun (q1 q2 g : Nat) (w : World) c1 c2 => cut_any 1 n n (4 * n) q1 q2 g w c1 c2 (by omega) (by omega) (by omega) (by omega) (by omega) (by omega) hn
  have C2 := fun (q1 q2 g : Nat) (w : World) c1 c2 => cut_any 2 (2 * n) n (4 * n) q1 q2 g w c1 c2 (by omega) (by omega) (by omega) (by omega) (by omega) (by omega) hn
  have C3 := fun (q1 q2 g : Nat) (w : World) c1 c2 => cut_any 3 (3 * n) n (4 * n) q1 q2 g w c1 c2 (by omega) (by omega) (by omega) (by omega) (by omega) (by omega) hn
  have CB := cutBlock4_any n
  obtain ⟨n2, h2⟩ : ∃ m : Nat, m = 2 * n := ⟨_, rfl⟩
  obtain ⟨n3, h3⟩ : ∃ m : Nat, m = 3 * n := ⟨_, rfl⟩
  obtain ⟨n4, h4⟩ : ∃ m : Nat, m = 4 * n := ⟨_, rfl⟩
  rw [← h2, ← h3, ← h4]
  rw [← h2] at C2
  rw [← h3] at C3
  rw [← h4] at C0 C1 C2 C3 CB
  have C0 := Lib.hid C0
  have C1 := Lib.hid C1
  have C2 := Lib.hid C2
  have C3 := Lib.hid C3
  have CB := Lib.hid (fun w => CB w hn hq)
  have A := Lib.hid (Cells.made w [.slice none 0 0, .slice none 0 0, .slice none 0 0, .slice none 0 0] 25)
  have Bw := Lib.hid (below_al1 w (.cells [Value.slice none 0 0, .slice none 0 0, .slice none 0 0, .slice none 0 0].toArray 25))
  clear h2 h3 h4 hn hq
  go_enter Try.func41, Try.ntmps41
  go_wp2_with fail
  refine (CB.out _).mono ?_
  rintro e w1 ⟨q1, q2, g, rfl, X1, X2, hg, Ro, hb⟩
  have hg : w.heap.size + 1 ≤ g := by simpa using hg
  have Bw := Lib.hid (below_step Bw.out hb)
  have A := Lib.hid (A.out.kept hb)
  clear hb
  go_wp2_with fail
  refine (C0.out _ _ _ _ (X1.at 0 rfl) (X2.at 0 rfl)).mono ?_
  rintro e w1' ⟨rfl, rfl⟩
  go_wp2_with fail
  refine (C1.out _ _ _ _ (X1.at 0 rfl) (X2.at 0 rfl)).mono ?_
  rintro e w1' ⟨rfl, rfl⟩
  go_wp2_with fail
  refine (C2.out _ _ _ _ (X1.at 0 rfl) (X2.at 0 rfl)).mono ?_
  rintro e w1' ⟨rfl, rfl⟩
  go_wp2_with fail
  refine (C3.out _ _ _ _ (X1.at 0 rfl) (X2.at 0 rfl)).mono ?_
  rintro e w1' ⟨rfl, rfl⟩
  clear X1 X2
  have a0 := A.out.at 0 rfl; have a1 := A.out.at 1 rfl; have a2 := A.out.at 2 rfl; have a3 := A.out.at 3 rfl; have af := A.out.fz
  go_wp2
  refine bodyPost_ret (v := .agg #[.slice (some ⟨g, 0, none⟩) n n, .slice (some ⟨g, n, none⟩) n n, .slice (some ⟨g, n2, none⟩) n n, .slice (some ⟨g, n3, none⟩) n n]) ?_ rfl ?_
  · rw [results_cell1 rfl]
    go_simp
  · exact ⟨g, rfl, by omega, rowIs_far (rowIs_far (rowIs_far (rowIs_far Ro (by omega)) (by omega)) (by omega)) (by omega), below_set4n Bw.out (by omega) _ _ _ _⟩
end Go.Proofs.Ytkbdidpodcclfaa
