/- Several texts in one, for a claim holds 60 files at most: Put2 GiveS GiveI JoinI CatL Plain2 JoinS JoinW. -/
import Derived.Test.YtkbdidpodcclfaaYC
import Derived.Test.YtkbdidpodcclfaaYD
import Derived.Test.YtkbdidpodcclfaaYE
import Derived.Laws.ResultCell

/- The cells of a rod copied into a rod in one block. -/
namespace Go.Proofs.Ytkbdidpodcclfaa
open Go.RowKit
set_option linter.unusedVariables false

theorem onl_drew {g : Nat} {w w' : World} (h : Onl g w.drew w') : Onl g w w' := ⟨h.os, h.tape, h.output, h.size, h.block⟩
theorem lay_onl {w w' : World} {g n b0 o0 k0 b1 o1 k1 b2 o2 k2 b3 o3 k3 : Nat} {r : RL} (h : Lay w n b0 o0 k0 b1 o1 k1 b2 o2 k2 b3 o3 k3 r) (ho : Onl g w w') (hb0 : b0 ≠ g) (hb1 : b1 ≠ g) (hb2 : b2 ≠ g) (hb3 : b3 ≠ g) : Lay w' n b0 o0 k0 b1 o1 k1 b2 o2 k2 b3 o3 k3 r :=
  ⟨fun i hi => (World.cell?_of_block (w := w) (ho.block b0 hb0)).trans (h.W i hi), fun i hi => (World.cell?_of_block (w := w) (ho.block b1 hb1)).trans (h.E i hi), fun i hi => (World.cell?_of_block (w := w) (ho.block b2 hb2)).trans (h.H i hi), fun i hi => (World.cell?_of_block (w := w) (ho.block b3 hb3)).trans (h.T i hi)⟩

set_option maxHeartbeats 3200000 in
set_option maxRecDepth 4000 in
theorem put_any {n b0 o0 k0 b1 o1 k1 b2 o2 k2 b3 o3 k3 : Nat} (g N j : Nat) (f : Nat → Nat) (r : RL) (w : World) (hL : Lay w n b0 o0 k0 b1 o1 k1 b2 o2 k2 b3 o3 k3 r) (hr : w.rowIs g 22 (4 * N) (fun i => .float .f32 (f i))) (hN : N ≤ 96) (hj : j + n ≤ N) (hn : 1 ≤ n) (hb0 : b0 ≠ g) (hb1 : b1 ≠ g) (hb2 : b2 ≠ g) (hb3 : b3 ≠ g) :
    Calls Try.prog 47 #[inBlk g N, .int .i64 j, .agg #[.slice (some ⟨b0, o0, none⟩) n k0, .slice (some ⟨b1, o1, none⟩) n k1, .slice (some ⟨b2, o2, none⟩) n k2, .slice (some ⟨b3, o3, none⟩) n k3]] w fun e w' => e = .returned (.tuple #[]) ∧ w'.rowIs g 22 (4 * N) (fun i => .float .f32 (cpF (cpF (cpF (cpF f j n (fun i => r.W.getD i 0)) (N + j) n (fun i => r.E.getD i 0)) (2 * N + j) n (fun i => r.H.getD i 0)) (3 * N + j) n (fun i => r.T.getD i 0) i)) ∧ Tur (· = g) w w' := by
  have hgl := hr.lt
  have RO := Lib.hid (rowIs_below hr (below_al2 w (.cells [.slice (some ⟨g, 0, none⟩) N N, .slice (some ⟨g, N, none⟩) N N, .slice (some ⟨g, 2 * N, none⟩) N N, .slice (some ⟨g, 3 * N, none⟩) N N].toArray 25) (.cells [.slice (some ⟨b0, o0, none⟩) n k0, .slice (some ⟨b1, o1, none⟩) n k1, .slice (some ⟨b2, o2, none⟩) n k2, .slice (some ⟨b3, o3, none⟩) n k3].toArray 25)))
  have LY := Lib.hid (hL.below (below_al2 w (.cells [.slice (some ⟨g, 0, none⟩) N N, .slice (some ⟨g, N, none⟩) N N, .slice (some ⟨g, 2 * N, none⟩) N N, .slice (some ⟨g, 3 * N, none⟩) N N].toArray 25) (.cells [.slice (some ⟨b0, o0, none⟩) n k0, .slice (some ⟨b1, o1, none⟩) n k1, .slice (some ⟨b2, o2, none⟩) n k2, .slice (some ⟨b3, o3, none⟩) n k3].toArray 25)))
  have A := Lib.hid ((Cells.made w [.slice (some ⟨g, 0, none⟩) N N, .slice (some ⟨g, N, none⟩) N N, .slice (some ⟨g, 2 * N, none⟩) N N, .slice (some ⟨g, 3 * N, none⟩) N N] 25).al (.cells [.slice (some ⟨b0, o0, none⟩) n k0, .slice (some ⟨b1, o1, none⟩) n k1, .slice (some ⟨b2, o2, none⟩) n k2, .slice (some ⟨b3, o3, none⟩) n k3].toArray 25))
  have A5 := Cells.made (w.alloc (.cells [.slice (some ⟨g, 0, none⟩) N N, .slice (some ⟨g, N, none⟩) N N, .slice (some ⟨g, 2 * N, none⟩) N N, .slice (some ⟨g, 3 * N, none⟩) N N].toArray 25)) [.slice (some ⟨b0, o0, none⟩) n k0, .slice (some ⟨b1, o1, none⟩) n k1, .slice (some ⟨b2, o2, none⟩) n k2, .slice (some ⟨b3, o3, none⟩) n k3] 25
  rw [show (w.alloc (.cells [.slice (some ⟨g, 0, none⟩) N N, .slice (some ⟨g, N, none⟩) N N, .slice (some ⟨g, 2 * N, none⟩) N N, .slice (some ⟨g, 3 * N, none⟩) N N].toArray 25)).heap.size = w.heap.size + 1 from by simp] at A5
  have A5 := Lib.hid A5
  have T := Lib.hid (Tur.of_below (S := (· = g)) (below_al2 w (.cells [.slice (some ⟨g, 0, none⟩) N N, .slice (some ⟨g, N, none⟩) N N, .slice (some ⟨g, 2 * N, none⟩) N N, .slice (some ⟨g, 3 * N, none⟩) N N].toArray 25) (.cells [.slice (some ⟨b0, o0, none⟩) n k0, .slice (some ⟨b1, o1, none⟩) n k1, .slice (some ⟨b2, o2, none⟩) n k2, .slice (some ⟨b3, o3, none⟩) n k3].toArray 25)))
  have NE : Hid (¬ w.heap.size = g) := Lib.hid (by omega)
  have NE5 : Hid (¬ w.heap.size + 1 = g) := Lib.hid (by omega)
  have hjN : (j : Int) ≤ (N : Int) := by omega
  have hj0 : (0 : Int) ≤ (j : Int) := by omega
  have hjn : j ≤ N := by omega
  clear hr hL hgl
  unfold inBlk
  go_enter Try.func47, Try.ntmps47
  go_wp2
  generalize hW : ((w.alloc (.cells [.slice (some ⟨g, 0, none⟩) N N, .slice (some ⟨g, N, none⟩) N N, .slice (some ⟨g, 2 * N, none⟩) N N, .slice (some ⟨g, 3 * N, none⟩) N N].toArray 25)).alloc (.cells [.slice (some ⟨b0, o0, none⟩) n k0, .slice (some ⟨b1, o1, none⟩) n k1, .slice (some ⟨b2, o2, none⟩) n k2, .slice (some ⟨b3, o3, none⟩) n k3].toArray 25)) = w2 at *
  clear hW
  have c0 := A.out.at 0 rfl; have c1 := A.out.at 1 rfl; have c2 := A.out.at 2 rfl; have c3 := A.out.at 3 rfl; have d0 := A5.out.at 0 rfl; have d1 := A5.out.at 1 rfl; have d2 := A5.out.at 2 rfl; have d3 := A5.out.at 3 rfl
  all_goals
    go_region_law (refine step_copy32 rfl (.tmp 9) (.tmp 11) rfl g (j) (N - j) (N - j) (4 * N) _ (by simp [Act.eval, Act.put]; try omega) b0 o0 n k0 (fun i => r.W.getD i 0) (by simp [Act.eval, Act.put]) RO.out (by omega) (by omega) (LY.out.W) ?_; intro w3 hr3 ho3)
  all_goals
    have RO := Lib.hid hr3
    have LY := Lib.hid (lay_onl LY.out (onl_drew ho3) hb0 hb1 hb2 hb3)
    have T := Lib.hid (T.out.trans (Tur.of_onl (S := (· = g)) (onl_drew ho3) rfl))
    have A := Lib.hid ((Tur.of_onl (S := (· = g)) (onl_drew ho3) rfl).cells A.out NE.out)
    have A5 := Lib.hid ((Tur.of_onl (S := (· = g)) (onl_drew ho3) rfl).cells A5.out NE5.out)
    clear hr3 ho3 c0 c1 c2 c3 d0 d1 d2 d3
    have c0 := A.out.at 0 rfl; have c1 := A.out.at 1 rfl; have c2 := A.out.at 2 rfl; have c3 := A.out.at 3 rfl; have d0 := A5.out.at 0 rfl; have d1 := A5.out.at 1 rfl; have d2 := A5.out.at 2 rfl; have d3 := A5.out.at 3 rfl
    go_wp2
  all_goals
    go_region_law (refine step_copy32 rfl (.tmp 16) (.tmp 18) rfl g (N + j) (N - j) (N - j) (4 * N) _ (by simp [Act.eval, Act.put]; try omega) b1 o1 n k1 (fun i => r.E.getD i 0) (by simp [Act.eval, Act.put]) RO.out (by omega) (by omega) (LY.out.E) ?_; intro w4 hr3 ho3)
  all_goals
    have RO := Lib.hid hr3
    have LY := Lib.hid (lay_onl LY.out (onl_drew ho3) hb0 hb1 hb2 hb3)
    have T := Lib.hid (T.out.trans (Tur.of_onl (S := (· = g)) (onl_drew ho3) rfl))
    have A := Lib.hid ((Tur.of_onl (S := (· = g)) (onl_drew ho3) rfl).cells A.out NE.out)
    have A5 := Lib.hid ((Tur.of_onl (S := (· = g)) (onl_drew ho3) rfl).cells A5.out NE5.out)
    clear hr3 ho3 c0 c1 c2 c3 d0 d1 d2 d3
    have c0 := A.out.at 0 rfl; have c1 := A.out.at 1 rfl; have c2 := A.out.at 2 rfl; have c3 := A.out.at 3 rfl; have d0 := A5.out.at 0 rfl; have d1 := A5.out.at 1 rfl; have d2 := A5.out.at 2 rfl; have d3 := A5.out.at 3 rfl
    go_wp2
  all_goals
    go_region_law (refine step_copy32 rfl (.tmp 23) (.tmp 25) rfl g (2 * N + j) (N - j) (N - j) (4 * N) _ (by simp [Act.eval, Act.put]; try omega) b2 o2 n k2 (fun i => r.H.getD i 0) (by simp [Act.eval, Act.put]) RO.out (by omega) (by omega) (LY.out.H) ?_; intro w5 hr3 ho3)
  all_goals
    have RO := Lib.hid hr3
    have LY := Lib.hid (lay_onl LY.out (onl_drew ho3) hb0 hb1 hb2 hb3)
    have T := Lib.hid (T.out.trans (Tur.of_onl (S := (· = g)) (onl_drew ho3) rfl))
    have A := Lib.hid ((Tur.of_onl (S := (· = g)) (onl_drew ho3) rfl).cells A.out NE.out)
    have A5 := Lib.hid ((Tur.of_onl (S := (· = g)) (onl_drew ho3) rfl).cells A5.out NE5.out)
    clear hr3 ho3 c0 c1 c2 c3 d0 d1 d2 d3
    have c0 := A.out.at 0 rfl; have c1 := A.out.at 1 rfl; have c2 := A.out.at 2 rfl; have c3 := A.out.at 3 rfl; have d0 := A5.out.at 0 rfl; have d1 := A5.out.at 1 rfl; have d2 := A5.out.at 2 rfl; have d3 := A5.out.at 3 rfl
    go_wp2
  all_goals
    go_region_law (refine step_copy32 rfl (.tmp 30) (.tmp 32) rfl g (3 * N + j) (N - j) (N - j) (4 * N) _ (by simp [Act.eval, Act.put]; try omega) b3 o3 n k3 (fun i => r.T.getD i 0) (by simp [Act.eval, Act.put]) RO.out (by omega) (by omega) (LY.out.T) ?_; intro w6 hr3 ho3)
  all_goals
    have RO := Lib.hid hr3
    have LY := Lib.hid (lay_onl LY.out (onl_drew ho3) hb0 hb1 hb2 hb3)
    have T := Lib.hid (T.out.trans (Tur.of_onl (S := (· = g)) (onl_drew ho3) rfl))
    have A := Lib.hid ((Tur.of_onl (S := (· = g)) (onl_drew ho3) rfl).cells A.out NE.out)
    have A5 := Lib.hid ((Tur.of_onl (S := (· = g)) (onl_drew ho3) rfl).cells A5.out NE5.out)
    clear hr3 ho3 c0 c1 c2 c3 d0 d1 d2 d3
    have c0 := A.out.at 0 rfl; have c1 := A.out.at 1 rfl; have c2 := A.out.at 2 rfl; have c3 := A.out.at 3 rfl; have d0 := A5.out.at 0 rfl; have d1 := A5.out.at 1 rfl; have d2 := A5.out.at 2 rfl; have d3 := A5.out.at 3 rfl
    go_wp2
  all_goals
    go_end0
    exact ⟨rfl, RO.out, T.out⟩
end Go.Proofs.Ytkbdidpodcclfaa

/- A rod is handed on by the specification, if it is valid. -/
namespace Go.Proofs.Ytkbdidpodcclfaa
open Go.RowKit
set_option linter.unusedVariables false

def nilRd : Value := .agg #[.slice none 0 0, .slice none 0 0, .slice none 0 0, .slice none 0 0]
def ifR (b : Bool) (v : Value) : Value := bif b then v else nilRd
def GiveP (v : Value) (b : Bool) (w : World) (e : Ending) (w' : World) : Prop := e = .returned (.tuple #[ifR b v, .bool b]) ∧ Below w.heap.size w w'
theorem below_set4 {w w' : World} {B p : Nat} (h : Below B w w') (hp : B ≤ p) (x0 x1 x2 x3 : Value) : Below B w ((((w'.setCell ⟨p, 0, none⟩ x0).setCell ⟨p, 1, none⟩ x1).setCell ⟨p, 2, none⟩ x2).setCell ⟨p, 3, none⟩ x3) :=
  (((h.setCell (p := ⟨p, 0, none⟩) hp x0).setCell (p := ⟨p, 1, none⟩) hp x1).setCell (p := ⟨p, 2, none⟩) hp x2).setCell (p := ⟨p, 3, none⟩) hp x3
set_option maxHeartbeats 1600000 in
theorem specGive_any (a b c d : Value) (r : RL) (w : World) (h : RRow w a b c d r) : Calls Try.prog 39 #[.agg #[a, b, c, d]] w (GiveP (.agg #[a, b, c, d]) (vRod r) w) := by
  obtain ⟨a0, q0, rfl⟩ := h.W.shape
  obtain ⟨a1, q1, rfl⟩ := h.E.shape
  obtain ⟨a2, q2, rfl⟩ := h.H.shape
  obtain ⟨a3, q3, rfl⟩ := h.T.shape
  have H := Lib.hid (h.below (below_al2 w (.cells [.slice a0 r.W.length q0, .slice a1 r.E.length q1, .slice a2 r.H.length q2, .slice a3 r.T.length q3].toArray 25) (.cells [.slice none 0 0, .slice none 0 0, .slice none 0 0, .slice none 0 0].toArray 25)))
  have A := Lib.hid ((Cells.made w [.slice a0 r.W.length q0, .slice a1 r.E.length q1, .slice a2 r.H.length q2, .slice a3 r.T.length q3] 25).al (.cells [.slice none 0 0, .slice none 0 0, .slice none 0 0, .slice none 0 0].toArray 25))
  have R := Cells.made (w.alloc (.cells [.slice a0 r.W.length q0, .slice a1 r.E.length q1, .slice a2 r.H.length q2, .slice a3 r.T.length q3].toArray 25)) [.slice none 0 0, .slice none 0 0, .slice none 0 0, .slice none 0 0] 25
  rw [show (w.alloc (.cells [.slice a0 r.W.length q0, .slice a1 r.E.length q1, .slice a2 r.H.length q2, .slice a3 r.T.length q3].toArray 25)).heap.size = w.heap.size + 1 from by simp] at R
  have R := Lib.hid R
  have Bw := Lib.hid (below_al2 w (.cells [.slice a0 r.W.length q0, .slice a1 r.E.length q1, .slice a2 r.H.length q2, .slice a3 r.T.length q3].toArray 25) (.cells [.slice none 0 0, .slice none 0 0, .slice none 0 0, .slice none 0 0].toArray 25))
  have Z : Hid (w.heap.size ≤ ((w.alloc (.cells [.slice a0 r.W.length q0, .slice a1 r.E.length q1, .slice a2 r.H.length q2, .slice a3 r.T.length q3].toArray 25)).alloc (.cells [.slice none 0 0, .slice none 0 0, .slice none 0 0, .slice none 0 0].toArray 25)).heap.size) := Lib.hid (by simp; omega)
  clear h
  unfold GiveP ifR nilRd
  go_enter Try.func39, Try.ntmps39
  go_wp2_with fail
  generalize hW : ((w.alloc (.cells [.slice a0 r.W.length q0, .slice a1 r.E.length q1, .slice a2 r.H.length q2, .slice a3 r.T.length q3].toArray 25)).alloc (.cells [.slice none 0 0, .slice none 0 0, .slice none 0 0, .slice none 0 0].toArray 25)) = w2 at *
  clear hW
  cases hv : vRod r
  · have HV := Lib.hid hv
    refine (specIs_any _ _ _ _ r _ _ A.out H.out).mono ?_
    rw [hv]
    clear hv
    rintro _ _ ⟨rfl, m, rfl⟩
    have r0 := R.out.at 0 rfl; have r1 := R.out.at 1 rfl; have r2 := R.out.at 2 rfl; have r3 := R.out.at 3 rfl; have rf := R.out.fz
    go_wp2
    refine bodyPost_ret (v := .tuple #[.agg #[.slice none 0 0, .slice none 0 0, .slice none 0 0, .slice none 0 0], .bool false]) ?_ rfl ?_
    · rw [results_cell_tmp rfl]
      go_simp
    · exact ⟨by rw [HV.out]; rfl, below_set4 (below_drewN Bw.out m) (by omega) _ _ _ _⟩
  · have HV := Lib.hid hv
    refine (specIs_any _ _ _ _ r _ _ A.out H.out).mono ?_
    rw [hv]
    clear hv
    rintro _ _ ⟨rfl, m, rfl⟩
    have c0 := A.out.at 0 rfl; have c1 := A.out.at 1 rfl; have c2 := A.out.at 2 rfl; have c3 := A.out.at 3 rfl
    have r0 := R.out.at 0 rfl; have r1 := R.out.at 1 rfl; have r2 := R.out.at 2 rfl; have r3 := R.out.at 3 rfl; have rf := R.out.fz
    go_wp2
    refine bodyPost_ret (v := .tuple #[.agg #[.slice a0 r.W.length q0, .slice a1 r.E.length q1, .slice a2 r.H.length q2, .slice a3 r.T.length q3], .bool true]) ?_ rfl ?_
    · rw [results_cell_tmp rfl]
      go_simp
    · exact ⟨by rw [HV.out]; rfl, below_set4 (below_drewN Bw.out m) (by omega) _ _ _ _⟩

end Go.Proofs.Ytkbdidpodcclfaa

/- A rod is handed on by the program, if it is valid. -/
namespace Go.Proofs.Ytkbdidpodcclfaa
open Go.RowKit
set_option linter.unusedVariables false

theorem below_trans2 {B : Nat} {w w2 w3 : World} (h : Below B w w2) (hs : B ≤ w2.heap.size) (k : Below w2.heap.size w2 w3) : Below B w w3 := h.trans ⟨k.os, k.tape, k.output, k.size, fun j hj => k.block j (by omega)⟩
set_option maxHeartbeats 1600000 in
theorem implGive_any (a b c d : Value) (r : RL) (w : World) (h : RRow w a b c d r) : Calls Try.prog 42 #[.agg #[a, b, c, d]] w (GiveP (.agg #[a, b, c, d]) (vRod r) w) := by
  obtain ⟨a0, q0, rfl⟩ := h.W.shape
  obtain ⟨a1, q1, rfl⟩ := h.E.shape
  obtain ⟨a2, q2, rfl⟩ := h.H.shape
  obtain ⟨a3, q3, rfl⟩ := h.T.shape
  have H := Lib.hid (h.below (below_al2 w (.cells [.slice a0 r.W.length q0, .slice a1 r.E.length q1, .slice a2 r.H.length q2, .slice a3 r.T.length q3].toArray 25) (.cells [.slice none 0 0, .slice none 0 0, .slice none 0 0, .slice none 0 0].toArray 25)))
  have A := Lib.hid ((Cells.made w [.slice a0 r.W.length q0, .slice a1 r.E.length q1, .slice a2 r.H.length q2, .slice a3 r.T.length q3] 25).al (.cells [.slice none 0 0, .slice none 0 0, .slice none 0 0, .slice none 0 0].toArray 25))
  have R := Cells.made (w.alloc (.cells [.slice a0 r.W.length q0, .slice a1 r.E.length q1, .slice a2 r.H.length q2, .slice a3 r.T.length q3].toArray 25)) [.slice none 0 0, .slice none 0 0, .slice none 0 0, .slice none 0 0] 25
  rw [show (w.alloc (.cells [.slice a0 r.W.length q0, .slice a1 r.E.length q1, .slice a2 r.H.length q2, .slice a3 r.T.length q3].toArray 25)).heap.size = w.heap.size + 1 from by simp] at R
  have R := Lib.hid R
  have Bw := Lib.hid (below_al2 w (.cells [.slice a0 r.W.length q0, .slice a1 r.E.length q1, .slice a2 r.H.length q2, .slice a3 r.T.length q3].toArray 25) (.cells [.slice none 0 0, .slice none 0 0, .slice none 0 0, .slice none 0 0].toArray 25))
  have Z : Hid (w.heap.size ≤ ((w.alloc (.cells [.slice a0 r.W.length q0, .slice a1 r.E.length q1, .slice a2 r.H.length q2, .slice a3 r.T.length q3].toArray 25)).alloc (.cells [.slice none 0 0, .slice none 0 0, .slice none 0 0, .slice none 0 0].toArray 25)).heap.size) := Lib.hid (by simp; omega)
  clear h
  unfold GiveP ifR nilRd
  go_enter Try.func42, Try.ntmps42
  go_wp2_with fail
  generalize hW : ((w.alloc (.cells [.slice a0 r.W.length q0, .slice a1 r.E.length q1, .slice a2 r.H.length q2, .slice a3 r.T.length q3].toArray 25)).alloc (.cells [.slice none 0 0, .slice none 0 0, .slice none 0 0, .slice none 0 0].toArray 25)) = w2 at *
  clear hW
  cases hv : vRod r
  · have HV := Lib.hid hv
    have c0 := A.out.at 0 rfl; have c1 := A.out.at 1 rfl; have c2 := A.out.at 2 rfl; have c3 := A.out.at 3 rfl
    refine (implValid_any _ _ _ _ r _ H.out).mono ?_
    rw [hv]
    clear hv
    rintro _ w3 ⟨rfl, hb⟩
    have R := Lib.hid (R.out.kept hb)
    have A := Lib.hid (A.out.kept hb)
    have Bw := Lib.hid (below_trans2 Bw.out Z.out hb)
    clear hb c0 c1 c2 c3
    have c0 := A.out.at 0 rfl; have c1 := A.out.at 1 rfl; have c2 := A.out.at 2 rfl; have c3 := A.out.at 3 rfl
    have r0 := R.out.at 0 rfl; have r1 := R.out.at 1 rfl; have r2 := R.out.at 2 rfl; have r3 := R.out.at 3 rfl; have rf := R.out.fz
    go_wp2
    refine bodyPost_ret (v := .tuple #[.agg #[.slice none 0 0, .slice none 0 0, .slice none 0 0, .slice none 0 0], .bool false]) ?_ rfl ?_
    · rw [results_cell_tmp rfl]
      go_simp
    · exact ⟨by rw [HV.out]; rfl, below_set4 Bw.out (by omega) _ _ _ _⟩
  · have HV := Lib.hid hv
    have c0 := A.out.at 0 rfl; have c1 := A.out.at 1 rfl; have c2 := A.out.at 2 rfl; have c3 := A.out.at 3 rfl
    refine (implValid_any _ _ _ _ r _ H.out).mono ?_
    rw [hv]
    clear hv
    rintro _ w3 ⟨rfl, hb⟩
    have R := Lib.hid (R.out.kept hb)
    have A := Lib.hid (A.out.kept hb)
    have Bw := Lib.hid (below_trans2 Bw.out Z.out hb)
    clear hb c0 c1 c2 c3
    have c0 := A.out.at 0 rfl; have c1 := A.out.at 1 rfl; have c2 := A.out.at 2 rfl; have c3 := A.out.at 3 rfl
    skip
    have r0 := R.out.at 0 rfl; have r1 := R.out.at 1 rfl; have r2 := R.out.at 2 rfl; have r3 := R.out.at 3 rfl; have rf := R.out.fz
    go_wp2
    refine bodyPost_ret (v := .tuple #[.agg #[.slice a0 r.W.length q0, .slice a1 r.E.length q1, .slice a2 r.H.length q2, .slice a3 r.T.length q3], .bool true]) ?_ rfl ?_
    · rw [results_cell_tmp rfl]
      go_simp
    · exact ⟨by rw [HV.out]; rfl, below_set4 Bw.out (by omega) _ _ _ _⟩

end Go.Proofs.Ytkbdidpodcclfaa

/- Two rods as one, as the program joins them. -/
namespace Go.Proofs.Ytkbdidpodcclfaa
open Go.RowKit
set_option linter.unusedVariables false

set_option maxHeartbeats 3200000 in
set_option maxRecDepth 8000 in
theorem implJo_no (a b c d a' b' c' d' : Value) (r s : RL) (w : World) (h : RRow w a b c d r) (h' : RRow w a' b' c' d' s) (hn : (vRod r && vRod s) = false) : Calls Try.prog 19 #[.agg #[a, b, c, d], .agg #[a', b', c', d']] w (RdO (joB r s) (joS r s) w) := by
  unfold RdO joS
  have HN := Lib.hid (joB_no hn)
  have H1 := Lib.hid (fun w1 (hb : Below w.heap.size w w1) => h.below hb)
  have H2 := Lib.hid (fun w1 (hb : Below w.heap.size w w1) => h'.below hb)
  have b3 := below_al3 w (.cells [a, b, c, d].toArray 25) (.cells [a', b', c', d'].toArray 25) (.cells [Value.slice none 0 0, .slice none 0 0, .slice none 0 0, .slice none 0 0].toArray 25)
  have A1 := Lib.hid (((Cells.made w [a, b, c, d] 25).al (.cells [a', b', c', d'].toArray 25)).al (.cells [Value.slice none 0 0, .slice none 0 0, .slice none 0 0, .slice none 0 0].toArray 25))
  have A2 := (Cells.made (w.alloc (.cells [a, b, c, d].toArray 25)) [a', b', c', d'] 25).al (.cells [Value.slice none 0 0, .slice none 0 0, .slice none 0 0, .slice none 0 0].toArray 25)
  rw [show (w.alloc (.cells [a, b, c, d].toArray 25)).heap.size = w.heap.size + 1 from by simp] at A2
  have A2 := Lib.hid A2
  have R := Cells.made ((w.alloc (.cells [a, b, c, d].toArray 25)).alloc (.cells [a', b', c', d'].toArray 25)) [.slice none 0 0, .slice none 0 0, .slice none 0 0, .slice none 0 0] 25
  rw [show ((w.alloc (.cells [a, b, c, d].toArray 25)).alloc (.cells [a', b', c', d'].toArray 25)).heap.size = w.heap.size + 2 from by simp] at R
  have R := Lib.hid R
  have Bw := Lib.hid b3
  clear h h' b3
  cases hv : vRod r
  · have HV := Lib.hid hv
    clear hv hn
    go_enter Try.func19, Try.ntmps19
    go_wp2_with fail
    refine (implValid_any _ _ _ _ r _ (H1.out _ Bw.out)).mono ?_
    rw [HV.out]
    rintro _ w3 ⟨rfl, hb⟩
    have R := Lib.hid (R.out.kept hb)
    have Bw := Lib.hid (below_step Bw.out hb)
    clear hb
    have r0 := R.out.at 0 rfl; have r1 := R.out.at 1 rfl; have r2 := R.out.at 2 rfl; have r3 := R.out.at 3 rfl; have rf := R.out.fz
    go_wp2
    refine bodyPost_ret (v := .tuple #[.agg #[.slice none 0 0, .slice none 0 0, .slice none 0 0, .slice none 0 0], .bool false]) ?_ rfl ?_
    · rw [results_cell_tmp rfl]
      go_simp
    · have hb := below_set4n Bw.out (p := w.heap.size + 2) (by omega) (.slice none 0 0) (.slice none 0 0) (.slice none 0 0) (.slice none 0 0)
      rw [HN.out]
      exact ⟨_, _, _, _, rfl, RodX.nil hb.size, hb⟩
  · have HV := Lib.hid hv
    have HV2 := Lib.hid (show vRod s = false by simpa [hv] using hn)
    clear hv hn
    go_enter Try.func19, Try.ntmps19
    go_wp2_with fail
    refine (implValid_any _ _ _ _ r _ (H1.out _ Bw.out)).mono ?_
    rw [HV.out]
    rintro _ w3 ⟨rfl, hb⟩
    have R := Lib.hid (R.out.kept hb)
    have A2 := Lib.hid (A2.out.kept hb)
    have Bw := Lib.hid (below_step Bw.out hb)
    clear hb
    have c0 := A2.out.at 0 rfl; have c1 := A2.out.at 1 rfl; have c2 := A2.out.at 2 rfl; have c3 := A2.out.at 3 rfl
    go_wp2_with fail
    refine (implValid_any _ _ _ _ s _ (H2.out _ Bw.out)).mono ?_
    rw [HV2.out]
    rintro _ w4 ⟨rfl, hb⟩
    have R := Lib.hid (R.out.kept hb)
    have Bw := Lib.hid (below_step Bw.out hb)
    clear hb c0 c1 c2 c3
    have r0 := R.out.at 0 rfl; have r1 := R.out.at 1 rfl; have r2 := R.out.at 2 rfl; have r3 := R.out.at 3 rfl; have rf := R.out.fz
    go_wp2
    refine bodyPost_ret (v := .tuple #[.agg #[.slice none 0 0, .slice none 0 0, .slice none 0 0, .slice none 0 0], .bool false]) ?_ rfl ?_
    · rw [results_cell_tmp rfl]
      go_simp
    · have hb := below_set4n Bw.out (p := w.heap.size + 2) (by omega) (.slice none 0 0) (.slice none 0 0) (.slice none 0 0) (.slice none 0 0)
      rw [HN.out]
      exact ⟨_, _, _, _, rfl, RodX.nil hb.size, hb⟩

set_option maxHeartbeats 6400000 in
set_option maxRecDepth 8000 in
theorem implJo_yes (a b c d a' b' c' d' : Value) (r s : RL) (w : World) (h : RRow w a b c d r) (h' : RRow w a' b' c' d' s) (hr : vRod r = true) (hs : vRod s = true) : Calls Try.prog 19 #[.agg #[a, b, c, d], .agg #[a', b', c', d']] w (RdO (joB r s) (joS r s) w) := by
  unfold RdO joS
  have LN := Len.ofV hr
  have LM := Len.ofV hs
  obtain ⟨b0, o0, k0, b1, o1, k1, b2, o2, k2, b3, o3, k3, rfl, rfl, rfl, rfl, hL⟩ := h.lay LN
  obtain ⟨d0, u0, l0, d1, u1, l1, d2, u2, l2, d3, u3, l3, rfl, rfl, rfl, rfl, hM⟩ := h'.lay LM
  obtain ⟨n, hn⟩ : ∃ n, r.W.length = n := ⟨_, rfl⟩
  obtain ⟨m, hm⟩ : ∃ m, s.W.length = m := ⟨_, rfl⟩
  rw [hn] at LN hL h ⊢
  rw [hm] at LM hM h' ⊢
  obtain ⟨N, hN⟩ : ∃ N, N = n + m := ⟨_, rfl⟩
  have JA := Lib.hid (jo_all n m N r s hN LN.W LN.E LN.H LN.T)
  have LE : Hid ((joR r s).W.length = N ∧ (joR r s).E.length = N ∧ (joR r s).H.length = N ∧ (joR r s).T.length = N) := Lib.hid (by have := LN.W; have := LN.E; have := LN.H; have := LN.T; have := LM.W; have := LM.E; have := LM.H; have := LM.T; simp only [joR, List.length_append]; omega)
  have OK := Lib.hid (joB_yes hr hs)
  have Q48 : Hid (vRod (joR r s) = true → N ≤ 48) := Lib.hid (fun hv => by have q := (Len.ofV hv).q; rw [LE.out.1] at q; exact q)
  have HP := Lib.hid LN.p; have HQ := Lib.hid LN.q; have MP := Lib.hid LM.p; have MQ := Lib.hid LM.q
  have e1 : IntKind.i64.wrap ((n : Int) + (m : Int)) = (N : Int) := by
    have := HQ.out; have := MQ.out
    unfold IntKind.wrap; simp [IntKind.bits, IntKind.signed]; omega
  have HE := Lib.hid hN
  have bb3 := below_al3 w (.cells [Value.slice (some ⟨b0, o0, none⟩) n k0, .slice (some ⟨b1, o1, none⟩) n k1, .slice (some ⟨b2, o2, none⟩) n k2, .slice (some ⟨b3, o3, none⟩) n k3].toArray 25) (.cells [Value.slice (some ⟨d0, u0, none⟩) m l0, .slice (some ⟨d1, u1, none⟩) m l1, .slice (some ⟨d2, u2, none⟩) m l2, .slice (some ⟨d3, u3, none⟩) m l3].toArray 25) (.cells [Value.slice none 0 0, .slice none 0 0, .slice none 0 0, .slice none 0 0].toArray 25)
  have A1 := Lib.hid (((Cells.made w [.slice (some ⟨b0, o0, none⟩) n k0, .slice (some ⟨b1, o1, none⟩) n k1, .slice (some ⟨b2, o2, none⟩) n k2, .slice (some ⟨b3, o3, none⟩) n k3] 25).al (.cells [Value.slice (some ⟨d0, u0, none⟩) m l0, .slice (some ⟨d1, u1, none⟩) m l1, .slice (some ⟨d2, u2, none⟩) m l2, .slice (some ⟨d3, u3, none⟩) m l3].toArray 25)).al (.cells [Value.slice none 0 0, .slice none 0 0, .slice none 0 0, .slice none 0 0].toArray 25))
  have A2 := (Cells.made (w.alloc (.cells [Value.slice (some ⟨b0, o0, none⟩) n k0, .slice (some ⟨b1, o1, none⟩) n k1, .slice (some ⟨b2, o2, none⟩) n k2, .slice (some ⟨b3, o3, none⟩) n k3].toArray 25)) [.slice (some ⟨d0, u0, none⟩) m l0, .slice (some ⟨d1, u1, none⟩) m l1, .slice (some ⟨d2, u2, none⟩) m l2, .slice (some ⟨d3, u3, none⟩) m l3] 25).al (.cells [Value.slice none 0 0, .slice none 0 0, .slice none 0 0, .slice none 0 0].toArray 25)
  rw [show (w.alloc (.cells [Value.slice (some ⟨b0, o0, none⟩) n k0, .slice (some ⟨b1, o1, none⟩) n k1, .slice (some ⟨b2, o2, none⟩) n k2, .slice (some ⟨b3, o3, none⟩) n k3].toArray 25)).heap.size = w.heap.size + 1 from by simp] at A2
  have A2 := Lib.hid A2
  have R := Cells.made ((w.alloc (.cells [Value.slice (some ⟨b0, o0, none⟩) n k0, .slice (some ⟨b1, o1, none⟩) n k1, .slice (some ⟨b2, o2, none⟩) n k2, .slice (some ⟨b3, o3, none⟩) n k3].toArray 25)).alloc (.cells [Value.slice (some ⟨d0, u0, none⟩) m l0, .slice (some ⟨d1, u1, none⟩) m l1, .slice (some ⟨d2, u2, none⟩) m l2, .slice (some ⟨d3, u3, none⟩) m l3].toArray 25)) [.slice none 0 0, .slice none 0 0, .slice none 0 0, .slice none 0 0] 25
  rw [show ((w.alloc (.cells [Value.slice (some ⟨b0, o0, none⟩) n k0, .slice (some ⟨b1, o1, none⟩) n k1, .slice (some ⟨b2, o2, none⟩) n k2, .slice (some ⟨b3, o3, none⟩) n k3].toArray 25)).alloc (.cells [Value.slice (some ⟨d0, u0, none⟩) m l0, .slice (some ⟨d1, u1, none⟩) m l1, .slice (some ⟨d2, u2, none⟩) m l2, .slice (some ⟨d3, u3, none⟩) m l3].toArray 25)).heap.size = w.heap.size + 2 from by simp] at R
  have R := Lib.hid R
  have Bw := Lib.hid bb3
  have H1 := Lib.hid (h.below bb3)
  have H2 := Lib.hid (fun w1 (hb : Below w.heap.size w w1) => h'.below hb)
  have LY := Lib.hid (fun w1 (hb : Below w.heap.size w w1) => hL.below hb)
  have LZ := Lib.hid (fun w1 (hb : Below w.heap.size w w1) => hM.below hb)
  have lb := Lib.hid (And.intro (cell_lt (hL.W 0 HP.out)) (And.intro (cell_lt (hL.E 0 HP.out)) (And.intro (cell_lt (hL.H 0 HP.out)) (cell_lt (hL.T 0 HP.out)))))
  have ld := Lib.hid (And.intro (cell_lt (hM.W 0 MP.out)) (And.intro (cell_lt (hM.E 0 MP.out)) (And.intro (cell_lt (hM.H 0 MP.out)) (cell_lt (hM.T 0 MP.out)))))
  have HV := Lib.hid hr
  have HV2 := Lib.hid hs
  have Z : Hid (w.heap.size + 3 ≤ (((w.alloc (.cells [Value.slice (some ⟨b0, o0, none⟩) n k0, .slice (some ⟨b1, o1, none⟩) n k1, .slice (some ⟨b2, o2, none⟩) n k2, .slice (some ⟨b3, o3, none⟩) n k3].toArray 25)).alloc (.cells [Value.slice (some ⟨d0, u0, none⟩) m l0, .slice (some ⟨d1, u1, none⟩) m l1, .slice (some ⟨d2, u2, none⟩) m l2, .slice (some ⟨d3, u3, none⟩) m l3].toArray 25)).alloc (.cells [Value.slice none 0 0, .slice none 0 0, .slice none 0 0, .slice none 0 0].toArray 25)).heap.size) := Lib.hid (by simp)
  clear hr hs h h' hL hM LN LM hn hm hN bb3
  go_enter Try.func19, Try.ntmps19
  go_wp2_with fail
  refine (implValid_any _ _ _ _ r _ H1.out).mono ?_
  rw [HV.out]
  rintro _ w3 ⟨rfl, hb⟩
  have Z3 := Lib.hid (Nat.le_trans Z.out hb.size)
  have R := Lib.hid (R.out.kept hb)
  have A1 := Lib.hid (A1.out.kept hb)
  have A2 := Lib.hid (A2.out.kept hb)
  have Bw := Lib.hid (below_step Bw.out hb)
  clear hb Z
  have c0 := A2.out.at 0 rfl; have c1 := A2.out.at 1 rfl; have c2 := A2.out.at 2 rfl; have c3 := A2.out.at 3 rfl
  go_wp2_with fail
  refine (implValid_any _ _ _ _ s _ (H2.out _ Bw.out)).mono ?_
  rw [HV2.out]
  rintro _ w4 ⟨rfl, hb⟩
  have Z3 := Lib.hid (Nat.le_trans Z3.out hb.size)
  have R := Lib.hid (R.out.kept hb)
  have A1 := Lib.hid (A1.out.kept hb)
  have A2 := Lib.hid (A2.out.kept hb)
  have Bw := Lib.hid (below_step Bw.out hb)
  clear hb c0 c1 c2 c3
  have c0 := A2.out.at 0 rfl; have c1 := A2.out.at 1 rfl; have c2 := A2.out.at 2 rfl; have c3 := A2.out.at 3 rfl
  have a0 := A1.out.at 0 rfl; have a1 := A1.out.at 1 rfl; have a2 := A1.out.at 2 rfl; have a3 := A1.out.at 3 rfl
  go_wp2_with fail
  refine (newRod_any N _ (by have := HP.out; have := HE.out; omega) (by have := HQ.out; have := MQ.out; have := HE.out; omega)).mono ?_
  rintro _ w5 ⟨g, rfl, hg, hr, hb⟩
  have GG : Hid (w.heap.size + 3 ≤ g) := Lib.hid (Nat.le_trans Z3.out hg)
  have ha := below_al1 w5 (.cells [Value.slice (some ⟨g, 0, none⟩) N N, .slice (some ⟨g, N, none⟩) N N, .slice (some ⟨g, 2 * N, none⟩) N N, .slice (some ⟨g, 3 * N, none⟩) N N].toArray 25)
  have G := Lib.hid (Cells.made w5 [.slice (some ⟨g, 0, none⟩) N N, .slice (some ⟨g, N, none⟩) N N, .slice (some ⟨g, 2 * N, none⟩) N N, .slice (some ⟨g, 3 * N, none⟩) N N] 25)
  have NG : Hid (¬ w5.heap.size = g) := Lib.hid (by have := hr.lt; omega)
  have RO := Lib.hid (rowIs_below hr ha)
  have R := Lib.hid ((R.out.kept hb).kept ha)
  have A1 := Lib.hid ((A1.out.kept hb).kept ha)
  have A2 := Lib.hid ((A2.out.kept hb).kept ha)
  have Bw := Lib.hid (below_step (below_step Bw.out hb) ha)
  clear hg hr hb ha c0 c1 c2 c3 a0 a1 a2 a3
  unfold inBlk
  have c0 := A2.out.at 0 rfl; have c1 := A2.out.at 1 rfl; have c2 := A2.out.at 2 rfl; have c3 := A2.out.at 3 rfl
  have a0 := A1.out.at 0 rfl; have a1 := A1.out.at 1 rfl; have a2 := A1.out.at 2 rfl; have a3 := A1.out.at 3 rfl
  have e0 := G.out.at 0 rfl; have e1 := G.out.at 1 rfl; have e2 := G.out.at 2 rfl; have e3 := G.out.at 3 rfl
  go_wp2_with fail
  generalize hW : w5.alloc (.cells [Value.slice (some ⟨g, 0, none⟩) N N, .slice (some ⟨g, N, none⟩) N N, .slice (some ⟨g, 2 * N, none⟩) N N, .slice (some ⟨g, 3 * N, none⟩) N N].toArray 25) = w6 at *
  clear hW
  refine (put_any g N 0 (fun _ => 0) r _ (LY.out _ Bw.out) RO.out (by have := HQ.out; have := MQ.out; have := HE.out; omega) (by have := HE.out; omega) HP.out (by have := lb.out.1; have := GG.out; omega) (by have := lb.out.2.1; have := GG.out; omega) (by have := lb.out.2.2.1; have := GG.out; omega) (by have := lb.out.2.2.2; have := GG.out; omega)).mono ?_
  rintro _ w7 ⟨rfl, hr, ht⟩
  have RO := Lib.hid hr
  have R := Lib.hid (ht.cells R.out (by intro e; have e' : w.heap.size + 2 = g := e; have := GG.out; omega))
  have A1 := Lib.hid (ht.cells A1.out (by intro e; have e' : w.heap.size = g := e; have := GG.out; omega))
  have A2 := Lib.hid (ht.cells A2.out (by intro e; have e' : w.heap.size + 1 = g := e; have := GG.out; omega))
  have G := Lib.hid (ht.cells G.out NG.out)
  have Bw := Lib.hid (Bw.out.trans (ht.below (B := w.heap.size) (fun k (hk : k = g) => by have := GG.out; omega) Bw.out.size))
  clear hr ht c0 c1 c2 c3 a0 a1 a2 a3 e0 e1 e2 e3
  have c0 := A2.out.at 0 rfl; have c1 := A2.out.at 1 rfl; have c2 := A2.out.at 2 rfl; have c3 := A2.out.at 3 rfl
  have a0 := A1.out.at 0 rfl; have a1 := A1.out.at 1 rfl; have a2 := A1.out.at 2 rfl; have a3 := A1.out.at 3 rfl
  have e0 := G.out.at 0 rfl; have e1 := G.out.at 1 rfl; have e2 := G.out.at 2 rfl; have e3 := G.out.at 3 rfl
  go_wp2_with fail
  refine (put_any g N n _ s _ (LZ.out _ Bw.out) RO.out (by have := HQ.out; have := MQ.out; have := HE.out; omega) (by have := HE.out; omega) MP.out (by have := ld.out.1; have := GG.out; omega) (by have := ld.out.2.1; have := GG.out; omega) (by have := ld.out.2.2.1; have := GG.out; omega) (by have := ld.out.2.2.2; have := GG.out; omega)).mono ?_
  rintro _ w8 ⟨rfl, hr, ht⟩
  have RO := Lib.hid (hr.congr (fun i hi => congrArg (Value.float .f32) (JA.out i hi)))
  have R := Lib.hid (ht.cells R.out (by intro e; have e' : w.heap.size + 2 = g := e; have := GG.out; omega))
  have A1 := Lib.hid (ht.cells A1.out (by intro e; have e' : w.heap.size = g := e; have := GG.out; omega))
  have A2 := Lib.hid (ht.cells A2.out (by intro e; have e' : w.heap.size + 1 = g := e; have := GG.out; omega))
  have G := Lib.hid (ht.cells G.out NG.out)
  have Bw := Lib.hid (Bw.out.trans (ht.below (B := w.heap.size) (fun k (hk : k = g) => by have := GG.out; omega) Bw.out.size))
  clear hr ht c0 c1 c2 c3 a0 a1 a2 a3 e0 e1 e2 e3
  have e0 := G.out.at 0 rfl; have e1 := G.out.at 1 rfl; have e2 := G.out.at 2 rfl; have e3 := G.out.at 3 rfl
  have NN : Hid (N ≤ 1000) := Lib.hid (by have := HQ.out; have := MQ.out; have := HE.out; omega)
  have CG := Lib.hid (implGive_any _ _ _ _ _ _ (rlF_row (r := joR r s) RO.out NN.out LE.out.1 LE.out.2.1 LE.out.2.2.1 LE.out.2.2.2))
  go_wp2_with fail
  refine CG.out.mono ?_
  unfold GiveP ifR nilRd
  cases hb : vRod (joR r s)
  all_goals
    simp only [cond_true, cond_false]
    rintro _ w9 ⟨rfl, hb8⟩
    have R := Lib.hid (R.out.kept hb8)
    have RO := Lib.hid (rowIs_below RO.out hb8)
    have Bw := Lib.hid (below_step Bw.out hb8)
    clear hb8 CG e0 e1 e2 e3
    have r0 := R.out.at 0 rfl; have r1 := R.out.at 1 rfl; have r2 := R.out.at 2 rfl; have r3 := R.out.at 3 rfl; have rf := R.out.fz
    go_wp2
  · refine bodyPost_ret (v := .tuple #[.agg #[.slice none 0 0, .slice none 0 0, .slice none 0 0, .slice none 0 0], .bool false]) ?_ rfl ?_
    · rw [results_cell_tmp rfl]
      go_simp
    · have hb9 := below_set4n Bw.out (p := w.heap.size + 2) (by omega) (.slice none 0 0) (.slice none 0 0) (.slice none 0 0) (.slice none 0 0)
      rw [OK.out, hb]
      exact ⟨_, _, _, _, rfl, RodX.nil hb9.size, hb9⟩
  · refine bodyPost_ret (v := .tuple #[.agg #[.slice (some ⟨g, 0, none⟩) N N, .slice (some ⟨g, N, none⟩) N N, .slice (some ⟨g, 2 * N, none⟩) N N, .slice (some ⟨g, 3 * N, none⟩) N N], .bool true]) ?_ rfl ?_
    · rw [results_cell_tmp rfl]
      go_simp
    · have h1 := GG.out
      have h2 := RO.out.lt
      have hb9 := below_set4n Bw.out (p := w.heap.size + 2) (by omega) (.slice (some ⟨g, 0, none⟩) N N) (.slice (some ⟨g, N, none⟩) N N) (.slice (some ⟨g, 2 * N, none⟩) N N) (.slice (some ⟨g, 3 * N, none⟩) N N)
      rw [OK.out, hb]
      refine ⟨_, _, _, _, rfl, .inr ⟨g, N, by omega, by simpa using h2, Q48.out hb, LE.out, ⟨rfl, rfl, rfl, rfl⟩, ?_⟩, hb9⟩
      exact rowIs_far (rowIs_far (rowIs_far (rowIs_far RO.out (by omega)) (by omega)) (by omega)) (by omega)
theorem implJo_any (a b c d a' b' c' d' : Value) (r s : RL) (w : World) (h : RRow w a b c d r) (h' : RRow w a' b' c' d' s) : Calls Try.prog 19 #[.agg #[a, b, c, d], .agg #[a', b', c', d']] w (RdO (joB r s) (joS r s) w) := by
  cases hr : vRod r
  · exact implJo_no _ _ _ _ _ _ _ _ r s w h h' (by simp [hr])
  · cases hs : vRod s
    · exact implJo_no _ _ _ _ _ _ _ _ r s w h h' (by simp [hs])
    · exact implJo_yes _ _ _ _ _ _ _ _ r s w h h' hr hs
end Go.Proofs.Ytkbdidpodcclfaa

/- Whole lists appended to lists of one's own, where a box of theirs lies too. -/
namespace Go.Proofs.Ytkbdidpodcclfaa
open Go.RowKit
set_option linter.unusedVariables false

/-- a whole list appended, and where the new slice lies -/
theorem wpList_cat32L {ops : Array Oper} {rest : List Oper} {o : Oper} {a : Act} {Q : Exit → Act → World → Prop} {w : World} (hgd : o.guard = none) (s x : Operand)
    (ho : o.op = .call { callee := .builtin .append, args := #[s, x], argTypes := #[23, 23] })
    (base : Nat) (v : Value) (zs ys : List Nat) (hs : a.eval s = v) (hown : Own w base v zs) (q off c m N : Nat) (hm0 : ys.length = m) (hN : zs.length + m = N) (hx : a.eval x = .slice (some ⟨q, off, none⟩) m c) (hq : ∀ i, i < m → w.cell? ⟨q, off + i, none⟩ = some (.float .f32 (ys.getD i 0)))
    (hk : zs.length ≤ 1048576) (hk1 : 1 ≤ m) (hk2 : m ≤ 1048576) (hbase : base ≤ w.heap.size)
    (h : ∀ g cap w', Own w' base (.slice (some ⟨g, 0, none⟩) N cap) (zs ++ ys) → Tur (fun b => v.ownBlock = some b) w w' → (v.ownBlock = some g ∨ g = w.heap.size) → g < w'.heap.size → wpList Try.prog ops Q rest (a.put o.dst (.slice (some ⟨g, 0, none⟩) N cap)) w') : wpList Try.prog ops Q (o :: rest) a w := by
  obtain ⟨i, hi, hz, hsz, hby⟩ := info32
  have hm : maxLen = 9223372036854775807 := rfl
  subst hN
  subst hm0
  refine wpList_append_lies w hgd s x _ ho base 22 i (.float .f32 0) 1 4 Try.underlying23 hi hz hsz hby rfl (by decide) v zs.length (fl zs) hs hown ⟨q, off, none⟩ ys.length c (fl ys) hx (by simp [fl]) (fun j u hj => ?_) (fun u hu => ?_) hk1 (by omega) (by omega) hbase _ rfl (fun g cap w' h1 h2 h3 h4 => ?_)
  · have hjl : j < ys.length := by
      by_cases hl : j < ys.length
      · exact hl
      · rw [List.getElem?_eq_none (by simpa [fl] using hl)] at hj
        cases hj
    have e : u = .float .f32 (ys.getD j 0) := by
      simp [fl, hjl] at hj
      simp [← hj, List.getD_eq_getElem?_getD, hjl]
    rw [e]
    have h2 := hq j hjl
    by_cases hj0 : j = 0
    · subst hj0
      first | (simp [Addr.add]; done) | simpa [Addr.add] using h2
    · first | (simp [Addr.add, hj0]; done) | simpa [Addr.add, hj0] using h2
  · simp [fl] at hu
    obtain ⟨z, _, rfl⟩ := hu
    rfl
  · refine h g cap w' ?_ ?_ h3 h4
    · unfold Own
      simpa [fl] using h1
    · have hb := (Below.refl 0 w).grown h2 (Nat.zero_le _) (fun _ _ => Nat.zero_le _)
      exact ⟨hb.os, hb.tape, hb.output, hb.size, fun k hk hs => h2.block k hk (fun e => hs e.symm)⟩
/-- four lists of one's own, none in block p, which is there -/
structure QB (w : World) (base p : Nat) (v0 : Value) (L0 : List Nat) (v1 : Value) (L1 : List Nat) (v2 : Value) (L2 : List Nat) (v3 : Value) (L3 : List Nat) : Prop where
  q : Quad w base v0 L0 v1 L1 v2 L2 v3 L3
  n0 : ∀ a, v0.ownBlock = some a → ¬ a = p
  n1 : ∀ a, v1.ownBlock = some a → ¬ a = p
  n2 : ∀ a, v2.ownBlock = some a → ¬ a = p
  n3 : ∀ a, v3.ownBlock = some a → ¬ a = p
  lt : p < w.heap.size
section
variable {w w' : World} {base p : Nat} {v0 : Value} {L0 : List Nat} {v1 : Value} {L1 : List Nat} {v2 : Value} {L2 : List Nat} {v3 : Value} {L3 : List Nat}
theorem QB.rot (h : QB w base p v0 L0 v1 L1 v2 L2 v3 L3) : QB w base p v1 L1 v2 L2 v3 L3 v0 L0 := ⟨h.q.rot, h.n1, h.n2, h.n3, h.n0, h.lt⟩
theorem QB.set (h : QB w base p v0 L0 v1 L1 v2 L2 v3 L3) (i : Nat) (u : Value) : QB (w.setCell ⟨p, i, none⟩ u) base p v0 L0 v1 L1 v2 L2 v3 L3 := by
  have t := Tur.setCell w p i u
  exact ⟨⟨h.q.o0.tur t h.n0, h.q.o1.tur t h.n1, h.q.o2.tur t h.n2, h.q.o3.tur t h.n3, h.q.d01, h.q.d02, h.q.d03, h.q.d12, h.q.d13, h.q.d23⟩, h.n0, h.n1, h.n2, h.n3, Nat.lt_of_lt_of_le h.lt t.size⟩
theorem QB.step {g cap n : Nat} {L : List Nat} (h : QB w base p v0 L0 v1 L1 v2 L2 v3 L3) (h0 : Own w' base (.slice (some ⟨g, 0, none⟩) n cap) L) (ht : Tur (fun b => v0.ownBlock = some b) w w') (hg : v0.ownBlock = some g ∨ g = w.heap.size) : QB w' base p (.slice (some ⟨g, 0, none⟩) n cap) L v1 L1 v2 L2 v3 L3 := by
  refine ⟨h.q.step h0 ht hg, fun a ha e => ?_, h.n1, h.n2, h.n3, Nat.lt_of_lt_of_le h.lt ht.size⟩
  have e2 : g = a := by simpa [Value.ownBlock] using ha
  subst e2
  rcases hg with hg | hg
  · exact h.n0 g hg e
  · have := h.lt; omega
theorem Quad.box (h : Quad w base v0 L0 v1 L1 v2 L2 v3 L3) (o : Obj) : QB (w.alloc o) base w.heap.size v0 L0 v1 L1 v2 L2 v3 L3 :=
  ⟨h.al o, fun a e f => by have := (h.o0.lt e).2; omega, fun a e f => by have := (h.o1.lt e).2; omega, fun a e f => by have := (h.o2.lt e).2; omega, fun a e f => by have := (h.o3.lt e).2; omega, by simp⟩
/-- one step of the four: the list grows, and its slice is put into the box -/
theorem catStep {B g cap n i : Nat} {L : List Nat} {us cs ds : List Value} {c d : Nat} (hB : B ≤ base) (h : QB w base p v0 L0 v1 L1 v2 L2 v3 L3) {w0 : World} (hw : Below B w0 w) (hBw : B ≤ w.heap.size) (hBp : B ≤ p) (hX : Cells w p us) (hC : Cells w c cs) (hcb : c < base) (hcp : c ≠ p) (hD : Cells w d ds) (hdb : d < base) (hdp : d ≠ p) (hi : i < us.length)
    (h0 : Own w' base (.slice (some ⟨g, 0, none⟩) n cap) L) (ht : Tur (fun b => v0.ownBlock = some b) w w') (hg : v0.ownBlock = some g ∨ g = w.heap.size) :
    Hid (QB (w'.setCell ⟨p, i, none⟩ (.slice (some ⟨g, 0, none⟩) n cap)) base p v1 L1 v2 L2 v3 L3 (.slice (some ⟨g, 0, none⟩) n cap) L) ∧ Hid (Below B w0 (w'.setCell ⟨p, i, none⟩ (.slice (some ⟨g, 0, none⟩) n cap))) ∧ Hid (B ≤ (w'.setCell ⟨p, i, none⟩ (.slice (some ⟨g, 0, none⟩) n cap)).heap.size)
      ∧ Hid (Cells (w'.setCell ⟨p, i, none⟩ (.slice (some ⟨g, 0, none⟩) n cap)) p (us.set i (.slice (some ⟨g, 0, none⟩) n cap))) ∧ Hid (Cells (w'.setCell ⟨p, i, none⟩ (.slice (some ⟨g, 0, none⟩) n cap)) c cs) ∧ Hid (Cells (w'.setCell ⟨p, i, none⟩ (.slice (some ⟨g, 0, none⟩) n cap)) d ds) ∧ Cells w' p us ∧ Cells w' c cs := by
  have b2 := hw.trans (ht.below (B := B) (fun k hk => Nat.le_trans hB (h.q.o0.lt hk).1) hBw)
  have X := ht.cells hX (fun e => h.n0 _ e rfl)
  have C := ht.cells hC (fun e => by have := (h.q.o0.lt e).1; omega)
  have D := ht.cells hD (fun e => by have := (h.q.o0.lt e).1; omega)
  exact ⟨Lib.hid ((h.step h0 ht hg).set i _).rot, Lib.hid (b2.setCell (p := ⟨p, i, none⟩) hBp _), Lib.hid (Nat.le_trans hBw (Nat.le_trans ht.size (Tur.setCell w' p i _).size)), Lib.hid (X.set i hi _), Lib.hid (C.far (Ne.symm hcp) i _), Lib.hid (D.far (Ne.symm hdp) i _), X, C⟩
end
end Go.Proofs.Ytkbdidpodcclfaa

/- The specification's rod of equal cells. -/
namespace Go.Proofs.Ytkbdidpodcclfaa
open Go.RowKit
set_option linter.unusedVariables false

def rep (k y : Nat) : List Nat := List.replicate k y
theorem rep_len (k y : Nat) : (rep k y).length = k := by simp [rep]
theorem rep_push (k y : Nat) : rep k y ++ [y] = rep (k + 1) y := by simp [rep, List.replicate_succ']
theorem Own.nil (w : World) (base : Nat) (hb : base ≤ w.heap.size) : Own w base (.slice none 0 0) [] := ⟨rfl, .inl ⟨rfl, rfl⟩⟩

/-- an append of one more of the same number -/
theorem wpList_rep {ops : Array Oper} {rest : List Oper} {o : Oper} {a : Act} {Q : Exit → Act → World → Prop} {w : World} (hgd : o.guard = none) (s x : Operand)
    (ho : o.op = .call { callee := .builtin .append, args := #[s, x], argTypes := #[23, 23] })
    (base : Nat) (v : Value) (k z : Nat) (hs : a.eval s = v) (hown : Own w base v (rep k z)) (q c : Nat) (hx : a.eval x = .slice (some ⟨q, 0, none⟩) 1 c) (hq : w.cell? ⟨q, 0, none⟩ = some (.float .f32 z))
    (hk : k ≤ 1048576) (hbase : base ≤ w.heap.size)
    (h : ∀ g cap w', Own w' base (.slice (some ⟨g, 0, none⟩) (k + 1) cap) (rep (k + 1) z) → Tur (fun b => v.ownBlock = some b) w w' → (v.ownBlock = some g ∨ g = w.heap.size) → g < w'.heap.size → wpList Try.prog ops Q rest (a.put o.dst (.slice (some ⟨g, 0, none⟩) (k + 1) cap)) w') : wpList Try.prog ops Q (o :: rest) a w := by
  refine wpList_app32L hgd s x ho base v (rep k z) hs hown q z c hx hq (by rw [rep_len]; exact hk) hbase (fun g cap w' h1 h2 h3 h4 => ?_)
  rw [rep_len] at h1 ⊢
  rw [rep_push] at h1
  exact h g cap w' h1 h2 h3 h4

/-- one step of the four: what holds behind the append -/
theorem plainStep {w w1 w' : World} {o : Obj} {base g cap k y : Nat} {v0 v1 v2 v3 : Value} {L0 L1 L2 L3 : List Nat} {us vs : List Value}
    (hw : Below w.heap.size w w1) (hbase : base = w.heap.size + 2) (hQ : Quad w1 base v0 L0 v1 L1 v2 L2 v3 L3) (hA : Cells w1 (w.heap.size + 1) us) (hR : Cells w1 w.heap.size vs)
    (h1 : Own w' base (.slice (some ⟨g, 0, none⟩) (k + 1) cap) (rep (k + 1) y)) (ht : Tur (fun b => v0.ownBlock = some b) (w1.alloc o) w') (hg : v0.ownBlock = some g ∨ g = (w1.alloc o).heap.size) :
    Quad w' base v1 L1 v2 L2 v3 L3 (.slice (some ⟨g, 0, none⟩) (k + 1) cap) (rep (k + 1) y) ∧ Cells w' (w.heap.size + 1) us ∧ Cells w' w.heap.size vs ∧ Below w.heap.size w w' := by
  refine ⟨((hQ.al o).step h1 ht hg).rot, ht.cells (hA.al o) (fun e => ?_), ht.cells (hR.al o) (fun e => ?_), ?_⟩
  · have := (hQ.o0.lt e).1; omega
  · have := (hQ.o0.lt e).1; omega
  · have hl := hA.lt
    exact (hw.alloc (by omega) o).trans (ht.below (fun j hj => by have := (hQ.o0.lt hj).1; omega) (by simp; omega))

/-- a rod of equal cells -/
def repRod (n y0 y1 y2 y3 : Nat) : RL := ⟨rep n y0, rep n y1, rep n y2, rep n y3⟩
def OutRod (n y0 y1 y2 y3 : Nat) (w : World) (e : Ending) (w' : World) : Prop := ∃ a b c d base, e = .returned (.agg #[a, b, c, d]) ∧ w.heap.size ≤ base ∧ Quad w' base a (rep n y0) b (rep n y1) c (rep n y2) d (rep n y3) ∧ Below w.heap.size w w'
theorem Quad.rod {w : World} {base n y0 y1 y2 y3 : Nat} {a b c d : Value} (h : Quad w base a (rep n y0) b (rep n y1) c (rep n y2) d (rep n y3)) (hn : n ≤ 48) : RRow w a b c d (repRod n y0 y1 y2 y3) := by
  have hl : ∀ y, (rep n y).length ≤ 1048576 := fun y => by rw [rep_len]; omega
  exact ⟨h.o0.row (hl _), h.o1.row (hl _), h.o2.row (hl _), h.o3.row (hl _)⟩
theorem Quad.kept {w w' : World} {base : Nat} {v0 : Value} {L0 : List Nat} {v1 : Value} {L1 : List Nat} {v2 : Value} {L2 : List Nat} {v3 : Value} {L3 : List Nat} (h : Quad w base v0 L0 v1 L1 v2 L2 v3 L3) (hb : Below w.heap.size w w') : Quad w' base v0 L0 v1 L1 v2 L2 v3 L3 :=
  h.tur (S := fun _ => False) (Tur.of_below hb) (fun _ _ h => h)

set_option maxHeartbeats 3200000 in
set_option maxRecDepth 4000 in
theorem specPlain_any (n y0 y1 y2 y3 : Nat) (w : World) (hp : 1 ≤ n) (hq : n ≤ 48) :
    Calls Try.prog 40 #[.int .i64 n, .float .f32 y0, .float .f32 y1, .float .f32 y2, .float .f32 y3] w (OutRod n y0 y1 y2 y3 w) := by
  have G := Lib.hid hq
  have R0 := Lib.hid ((Cells.made w [.slice none 0 0, .slice none 0 0, .slice none 0 0, .slice none 0 0] 25).al (.cells [.slice none 0 0, .slice none 0 0, .slice none 0 0, .slice none 0 0].toArray 25))
  have A0 := Cells.made (w.alloc (.cells [.slice none 0 0, .slice none 0 0, .slice none 0 0, .slice none 0 0].toArray 25)) [.slice none 0 0, .slice none 0 0, .slice none 0 0, .slice none 0 0] 25
  rw [show (w.alloc (.cells [.slice none 0 0, .slice none 0 0, .slice none 0 0, .slice none 0 0].toArray 25)).heap.size = w.heap.size + 1 from by simp] at A0
  have A0 := Lib.hid A0
  have B0 := Lib.hid (below_al2 w (.cells [.slice none 0 0, .slice none 0 0, .slice none 0 0, .slice none 0 0].toArray 25) (.cells [.slice none 0 0, .slice none 0 0, .slice none 0 0, .slice none 0 0].toArray 25))
  have Z0 : Hid (((w.alloc (.cells [.slice none 0 0, .slice none 0 0, .slice none 0 0, .slice none 0 0].toArray 25)).alloc (.cells [.slice none 0 0, .slice none 0 0, .slice none 0 0, .slice none 0 0].toArray 25)).heap.size = w.heap.size + 2) := Lib.hid (by simp)
  clear hp hq
  go_enter Try.func40, Try.ntmps40
  go_wp2
  generalize hW : ((w.alloc (.cells [.slice none 0 0, .slice none 0 0, .slice none 0 0, .slice none 0 0].toArray 25)).alloc (.cells [.slice none 0 0, .slice none 0 0, .slice none 0 0, .slice none 0 0].toArray 25)) = w2 at *
  clear hW
  go_loopw [12] (fun i wr => ∃ (k : Nat) (v0 v1 v2 v3 : Value), k ≤ n ∧ i = .int .i64 k ∧ Hid (Quad wr (w.heap.size + 2) v0 (rep k y0) v1 (rep k y1) v2 (rep k y2) v3 (rep k y3)) ∧ Hid (Cells wr (w.heap.size + 1) [v0, v1, v2, v3]) ∧ Hid (Cells wr w.heap.size [.slice none 0 0, .slice none 0 0, .slice none 0 0, .slice none 0 0]) ∧ Hid (Below w.heap.size w wr)) (fun i _ => n - (intOf i).toNat)
  case atStart =>
    refine ⟨0, _, _, _, _, Nat.zero_le _, rfl, Lib.hid ⟨Own.nil _ _ (by have := Z0.out; omega), Own.nil _ _ (by have := Z0.out; omega), Own.nil _ _ (by have := Z0.out; omega), Own.nil _ _ (by have := Z0.out; omega), ?_, ?_, ?_, ?_, ?_, ?_⟩, A0, R0, B0⟩ <;> (intro a h; cases h)
  case round =>
    obtain ⟨k, v0, v1, v2, v3, hk, rfl, Q, A, R, B⟩ := hrel
    have hG := G.out
    by_cases hlt : k < n
    · have c0 := A.out.at 0 rfl; have c1 := A.out.at 1 rfl; have c2 := A.out.at 2 rfl; have c3 := A.out.at 3 rfl; have cf := A.out.fz
      go_wp2_with (first
        | (at_builtin; have Q3b := Lib.hid (Q3.out.far (p := w.heap.size + 1) (by omega) 2 (.slice (some ⟨g2, 0, none⟩) (k + 1) cap2)); have A3b := Lib.hid (A3.out.set 2 (by simp) (.slice (some ⟨g2, 0, none⟩) (k + 1) cap2)); have R3b := Lib.hid (R3.out.far (q := w.heap.size + 1) (by omega) 2 (.slice (some ⟨g2, 0, none⟩) (k + 1) cap2)); have B3b := Lib.hid (B3.out.setCell (p := ⟨w.heap.size + 1, 2, none⟩) (by simp) (.slice (some ⟨g2, 0, none⟩) (k + 1) cap2)); refine wpList_rep rfl _ _ rfl (w.heap.size + 2) _ k y3 rfl ((Q3b.out.al _).o0) _ _ rfl ((World.cell?_alloc_at _ _ _ _ (by simp)).trans rfl) (by omega) (by have := A3b.out.lt; simp at this ⊢; omega) ?_; intro g3 cap3 w6 h1 ht hg hl; obtain ⟨hQ, hA, hR, hB⟩ := plainStep B3b.out rfl Q3b.out A3b.out R3b.out h1 ht hg; have Q4 := Lib.hid hQ; have A4 := Lib.hid hA; have R4 := Lib.hid hR; have B4 := Lib.hid hB; clear h1 ht hg hl hQ hA hR hB; have c40 := A4.out.at 0 rfl; have c41 := A4.out.at 1 rfl; have c42 := A4.out.at 2 rfl; have c43 := A4.out.at 3 rfl; have cf4 := A4.out.fz)
        | (at_builtin; have Q2b := Lib.hid (Q2.out.far (p := w.heap.size + 1) (by omega) 1 (.slice (some ⟨g1, 0, none⟩) (k + 1) cap1)); have A2b := Lib.hid (A2.out.set 1 (by simp) (.slice (some ⟨g1, 0, none⟩) (k + 1) cap1)); have R2b := Lib.hid (R2.out.far (q := w.heap.size + 1) (by omega) 1 (.slice (some ⟨g1, 0, none⟩) (k + 1) cap1)); have B2b := Lib.hid (B2.out.setCell (p := ⟨w.heap.size + 1, 1, none⟩) (by simp) (.slice (some ⟨g1, 0, none⟩) (k + 1) cap1)); refine wpList_rep rfl _ _ rfl (w.heap.size + 2) _ k y2 rfl ((Q2b.out.al _).o0) _ _ rfl ((World.cell?_alloc_at _ _ _ _ (by simp)).trans rfl) (by omega) (by have := A2b.out.lt; simp at this ⊢; omega) ?_; intro g2 cap2 w5 h1 ht hg hl; obtain ⟨hQ, hA, hR, hB⟩ := plainStep B2b.out rfl Q2b.out A2b.out R2b.out h1 ht hg; have Q3 := Lib.hid hQ; have A3 := Lib.hid hA; have R3 := Lib.hid hR; have B3 := Lib.hid hB; clear h1 ht hg hl hQ hA hR hB; have c30 := A3.out.at 0 rfl; have c31 := A3.out.at 1 rfl; have c32 := A3.out.at 2 rfl; have c33 := A3.out.at 3 rfl; have cf3 := A3.out.fz)
        | (at_builtin; have Q1b := Lib.hid (Q1.out.far (p := w.heap.size + 1) (by omega) 0 (.slice (some ⟨g0, 0, none⟩) (k + 1) cap0)); have A1b := Lib.hid (A1.out.set 0 (by simp) (.slice (some ⟨g0, 0, none⟩) (k + 1) cap0)); have R1b := Lib.hid (R1.out.far (q := w.heap.size + 1) (by omega) 0 (.slice (some ⟨g0, 0, none⟩) (k + 1) cap0)); have B1b := Lib.hid (B1.out.setCell (p := ⟨w.heap.size + 1, 0, none⟩) (by simp) (.slice (some ⟨g0, 0, none⟩) (k + 1) cap0)); refine wpList_rep rfl _ _ rfl (w.heap.size + 2) _ k y1 rfl ((Q1b.out.al _).o0) _ _ rfl ((World.cell?_alloc_at _ _ _ _ (by simp)).trans rfl) (by omega) (by have := A1b.out.lt; simp at this ⊢; omega) ?_; intro g1 cap1 w4 h1 ht hg hl; obtain ⟨hQ, hA, hR, hB⟩ := plainStep B1b.out rfl Q1b.out A1b.out R1b.out h1 ht hg; have Q2 := Lib.hid hQ; have A2 := Lib.hid hA; have R2 := Lib.hid hR; have B2 := Lib.hid hB; clear h1 ht hg hl hQ hA hR hB; have c20 := A2.out.at 0 rfl; have c21 := A2.out.at 1 rfl; have c22 := A2.out.at 2 rfl; have c23 := A2.out.at 3 rfl; have cf2 := A2.out.fz)
        | (at_builtin; have Q0b := Q; have A0b := A; have R0b := R; have B0b := B; refine wpList_rep rfl _ _ rfl (w.heap.size + 2) _ k y0 rfl ((Q0b.out.al _).o0) _ _ rfl ((World.cell?_alloc_at _ _ _ _ (by simp)).trans rfl) (by omega) (by have := A0b.out.lt; simp at this ⊢; omega) ?_; intro g0 cap0 w3 h1 ht hg hl; obtain ⟨hQ, hA, hR, hB⟩ := plainStep B0b.out rfl Q0b.out A0b.out R0b.out h1 ht hg; have Q1 := Lib.hid hQ; have A1 := Lib.hid hA; have R1 := Lib.hid hR; have B1 := Lib.hid hB; clear h1 ht hg hl hQ hA hR hB; have c10 := A1.out.at 0 rfl; have c11 := A1.out.at 1 rfl; have c12 := A1.out.at 2 rfl; have c13 := A1.out.at 3 rfl; have cf1 := A1.out.fz))
      go_roundw
      case rel => exact ⟨k + 1, _, _, _, _, by omega, by go_num, Lib.hid (Q4.out.far (by omega) 3 _), Lib.hid (A4.out.set 3 (by simp) _), Lib.hid (R4.out.far (by omega) 3 _), Lib.hid (B4.out.setCell (by simp) _)⟩
      case measure => simp [intOf]; omega
    · have e := Lib.hid (show k = n by omega)
      have hl : ∀ y, (rep k y).length ≤ 1048576 := fun y => by rw [rep_len]; omega
      obtain ⟨a0, q0, hs0⟩ := (Q.out.o0.row (hl _)).shape
      obtain ⟨a1, q1, hs1⟩ := (Q.out.o1.row (hl _)).shape
      obtain ⟨a2, q2, hs2⟩ := (Q.out.o2.row (hl _)).shape
      obtain ⟨a3, q3, hs3⟩ := (Q.out.o3.row (hl _)).shape
      clear hl
      rw [rep_len] at hs0 hs1 hs2 hs3
      subst hs0 hs1 hs2 hs3
      have c0 := A.out.at 0 rfl; have c1 := A.out.at 1 rfl; have c2 := A.out.at 2 rfl; have c3 := A.out.at 3 rfl; have cf := A.out.fz
      have r0 := R.out.at 0 rfl; have r1 := R.out.at 1 rfl; have r2 := R.out.at 2 rfl; have r3 := R.out.at 3 rfl
      have rf := R.out.fz
      have hv0 := Lib.hid ((((Q.out.far (p := w.heap.size) (by omega) 0 (.slice a0 k q0)).far (p := w.heap.size) (by omega) 1 (.slice a1 k q1)).far (p := w.heap.size) (by omega) 2 (.slice a2 k q2)).far (p := w.heap.size) (by omega) 3 (.slice a3 k q3))
      have hB := Lib.hid ((((B.out.setCell (p := ⟨w.heap.size, 0, none⟩) (by simp) (.slice a0 k q0)).setCell (p := ⟨w.heap.size, 1, none⟩) (by simp) (.slice a1 k q1)).setCell (p := ⟨w.heap.size, 2, none⟩) (by simp) (.slice a2 k q2)).setCell (p := ⟨w.heap.size, 3, none⟩) (by simp) (.slice a3 k q3))
      go_wp2
      refine bodyPost_ret (v := .agg #[.slice a0 k q0, .slice a1 k q1, .slice a2 k q2, .slice a3 k q3]) ?_ rfl ?_
      · rw [results_cell1 rfl]
        go_simp
      · have e1 := e.out
        subst e1
        exact ⟨_, _, _, _, _, rfl, by omega, hv0.out, hB.out⟩
end Go.Proofs.Ytkbdidpodcclfaa

/- Two rods as one, as the specification joins them. -/
namespace Go.Proofs.Ytkbdidpodcclfaa
open Go.RowKit
set_option linter.unusedVariables false

set_option maxHeartbeats 3200000 in
set_option maxRecDepth 8000 in
theorem specJo_no (a b c d a' b' c' d' : Value) (r s : RL) (w : World) (h : RRow w a b c d r) (h' : RRow w a' b' c' d' s) (hn : (vRod r && vRod s) = false) : Calls Try.prog 17 #[.agg #[a, b, c, d], .agg #[a', b', c', d']] w (RdB (joB r s) (joS r s) w) := by
  unfold RdB joS
  have HN := Lib.hid (joB_no hn)
  have H1 := Lib.hid (fun w1 (hb : Below w.heap.size w w1) => h.below hb)
  have H2 := Lib.hid (fun w1 (hb : Below w.heap.size w w1) => h'.below hb)
  have b3 := below_al3 w (.cells [a, b, c, d].toArray 25) (.cells [a', b', c', d'].toArray 25) (.cells [Value.slice none 0 0, .slice none 0 0, .slice none 0 0, .slice none 0 0].toArray 25)
  have A1 := Lib.hid (((Cells.made w [a, b, c, d] 25).al (.cells [a', b', c', d'].toArray 25)).al (.cells [Value.slice none 0 0, .slice none 0 0, .slice none 0 0, .slice none 0 0].toArray 25))
  have A2 := (Cells.made (w.alloc (.cells [a, b, c, d].toArray 25)) [a', b', c', d'] 25).al (.cells [Value.slice none 0 0, .slice none 0 0, .slice none 0 0, .slice none 0 0].toArray 25)
  rw [show (w.alloc (.cells [a, b, c, d].toArray 25)).heap.size = w.heap.size + 1 from by simp] at A2
  have A2 := Lib.hid A2
  have R := Cells.made ((w.alloc (.cells [a, b, c, d].toArray 25)).alloc (.cells [a', b', c', d'].toArray 25)) [.slice none 0 0, .slice none 0 0, .slice none 0 0, .slice none 0 0] 25
  rw [show ((w.alloc (.cells [a, b, c, d].toArray 25)).alloc (.cells [a', b', c', d'].toArray 25)).heap.size = w.heap.size + 2 from by simp] at R
  have R := Lib.hid R
  have Bw := Lib.hid b3
  clear h h' b3
  cases hv : vRod r
  · have HV := Lib.hid hv
    clear hv hn
    go_enter Try.func17, Try.ntmps17
    go_wp2_with fail
    refine (specIs_any _ _ _ _ r _ _ A1.out (H1.out _ Bw.out)).mono ?_
    rw [HV.out]
    rintro _ _ ⟨rfl, k, rfl⟩
    have R := Lib.hid (R.out.drewN (n := k))
    have Bw := Lib.hid (below_drewN Bw.out k)
    have r0 := R.out.at 0 rfl; have r1 := R.out.at 1 rfl; have r2 := R.out.at 2 rfl; have r3 := R.out.at 3 rfl; have rf := R.out.fz
    go_wp2
    refine bodyPost_ret (v := .tuple #[.agg #[.slice none 0 0, .slice none 0 0, .slice none 0 0, .slice none 0 0], .bool false]) ?_ rfl ?_
    · rw [results_cell_tmp rfl]
      go_simp
    · have hb := below_set4n Bw.out (p := w.heap.size + 2) (by omega) (.slice none 0 0) (.slice none 0 0) (.slice none 0 0) (.slice none 0 0)
      rw [HN.out]
      exact ⟨_, _, _, _, rfl, nil_row _, hb⟩
  · have HV := Lib.hid hv
    have HV2 := Lib.hid (show vRod s = false by simpa [hv] using hn)
    clear hv hn
    go_enter Try.func17, Try.ntmps17
    go_wp2_with fail
    refine (specIs_any _ _ _ _ r _ _ A1.out (H1.out _ Bw.out)).mono ?_
    rw [HV.out]
    rintro _ _ ⟨rfl, k, rfl⟩
    have R := Lib.hid (R.out.drewN (n := k))
    have A2 := Lib.hid (A2.out.drewN (n := k))
    have Bw := Lib.hid (below_drewN Bw.out k)
    generalize ((((w.alloc (.cells [a, b, c, d].toArray 25)).alloc (.cells [a', b', c', d'].toArray 25)).alloc (.cells [Value.slice none 0 0, .slice none 0 0, .slice none 0 0, .slice none 0 0].toArray 25)).drewN k) = w3 at *
    go_wp2_with fail
    refine (specIs_any _ _ _ _ s _ _ A2.out (H2.out _ Bw.out)).mono ?_
    rw [HV2.out]
    rintro _ _ ⟨rfl, k2, rfl⟩
    have R := Lib.hid (R.out.drewN (n := k2))
    have Bw := Lib.hid (below_drewN Bw.out k2)
    have r0 := R.out.at 0 rfl; have r1 := R.out.at 1 rfl; have r2 := R.out.at 2 rfl; have r3 := R.out.at 3 rfl; have rf := R.out.fz
    go_wp2
    refine bodyPost_ret (v := .tuple #[.agg #[.slice none 0 0, .slice none 0 0, .slice none 0 0, .slice none 0 0], .bool false]) ?_ rfl ?_
    · rw [results_cell_tmp rfl]
      go_simp
    · have hb := below_set4n Bw.out (p := w.heap.size + 2) (by omega) (.slice none 0 0) (.slice none 0 0) (.slice none 0 0) (.slice none 0 0)
      rw [HN.out]
      exact ⟨_, _, _, _, rfl, nil_row _, hb⟩

set_option maxHeartbeats 6400000 in
set_option maxRecDepth 8000 in
theorem specJo_yes (a b c d a' b' c' d' : Value) (r s : RL) (w : World) (h : RRow w a b c d r) (h' : RRow w a' b' c' d' s) (hr : vRod r = true) (hs : vRod s = true) : Calls Try.prog 17 #[.agg #[a, b, c, d], .agg #[a', b', c', d']] w (RdB (joB r s) (joS r s) w) := by
  unfold RdB joS
  have LM := Len.ofV hs
  have LN := Len.ofV hr
  have SZ := Lib.hid (show RSz r from vRod_size hr)
  obtain ⟨d0, u0, l0, d1, u1, l1, d2, u2, l2, d3, u3, l3, rfl, rfl, rfl, rfl, hM⟩ := h'.lay LM
  obtain ⟨n, hn⟩ : ∃ n, r.W.length = n := ⟨_, rfl⟩
  obtain ⟨m, hm⟩ : ∃ m, s.W.length = m := ⟨_, rfl⟩
  rw [hm] at LM hM h' ⊢
  rw [hn] at LN
  have OK := Lib.hid (joB_yes hr hs)
  have MP := Lib.hid LM.p; have MQ := Lib.hid LM.q; have NQ := Lib.hid LN.q
  have SL : Hid (s.W.length = m ∧ s.E.length = m ∧ s.H.length = m ∧ s.T.length = m) := Lib.hid ⟨LM.W, LM.E, LM.H, LM.T⟩
  have RL4 : Hid (r.W.length = n ∧ r.E.length = n ∧ r.H.length = n ∧ r.T.length = n) := Lib.hid ⟨LN.W, LN.E, LN.H, LN.T⟩
  have JS : Hid ((joR r s).size ≤ 1048576) := Lib.hid (by have := LN.W; have := LN.E; have := LN.H; have := LN.T; have := LM.W; have := LM.E; have := LM.H; have := LM.T; have := LM.q; have := LN.q; simp only [joR, RL.size, List.length_append]; omega)
  have H1 := Lib.hid (fun w1 (hb : Below w.heap.size w w1) => h.below hb)
  have H2 := Lib.hid (fun w1 (hb : Below w.heap.size w w1) => h'.below hb)
  have LZ := Lib.hid (fun w1 (hb : Below w.heap.size w w1) => hM.below hb)
  have bb3 := below_al3 w (.cells [a, b, c, d].toArray 25) (.cells [Value.slice (some ⟨d0, u0, none⟩) m l0, .slice (some ⟨d1, u1, none⟩) m l1, .slice (some ⟨d2, u2, none⟩) m l2, .slice (some ⟨d3, u3, none⟩) m l3].toArray 25) (.cells [Value.slice none 0 0, .slice none 0 0, .slice none 0 0, .slice none 0 0].toArray 25)
  have A1 := Lib.hid (((Cells.made w [a, b, c, d] 25).al (.cells [Value.slice (some ⟨d0, u0, none⟩) m l0, .slice (some ⟨d1, u1, none⟩) m l1, .slice (some ⟨d2, u2, none⟩) m l2, .slice (some ⟨d3, u3, none⟩) m l3].toArray 25)).al (.cells [Value.slice none 0 0, .slice none 0 0, .slice none 0 0, .slice none 0 0].toArray 25))
  have A2 := (Cells.made (w.alloc (.cells [a, b, c, d].toArray 25)) [.slice (some ⟨d0, u0, none⟩) m l0, .slice (some ⟨d1, u1, none⟩) m l1, .slice (some ⟨d2, u2, none⟩) m l2, .slice (some ⟨d3, u3, none⟩) m l3] 25).al (.cells [Value.slice none 0 0, .slice none 0 0, .slice none 0 0, .slice none 0 0].toArray 25)
  rw [show (w.alloc (.cells [a, b, c, d].toArray 25)).heap.size = w.heap.size + 1 from by simp] at A2
  have A2 := Lib.hid A2
  have R := Cells.made ((w.alloc (.cells [a, b, c, d].toArray 25)).alloc (.cells [Value.slice (some ⟨d0, u0, none⟩) m l0, .slice (some ⟨d1, u1, none⟩) m l1, .slice (some ⟨d2, u2, none⟩) m l2, .slice (some ⟨d3, u3, none⟩) m l3].toArray 25)) [.slice none 0 0, .slice none 0 0, .slice none 0 0, .slice none 0 0] 25
  rw [show ((w.alloc (.cells [a, b, c, d].toArray 25)).alloc (.cells [Value.slice (some ⟨d0, u0, none⟩) m l0, .slice (some ⟨d1, u1, none⟩) m l1, .slice (some ⟨d2, u2, none⟩) m l2, .slice (some ⟨d3, u3, none⟩) m l3].toArray 25)).heap.size = w.heap.size + 2 from by simp] at R
  have R := Lib.hid R
  have Bw := Lib.hid bb3
  have HV := Lib.hid hr
  have HV2 := Lib.hid hs
  have Z : Hid (w.heap.size + 3 ≤ (((w.alloc (.cells [a, b, c, d].toArray 25)).alloc (.cells [Value.slice (some ⟨d0, u0, none⟩) m l0, .slice (some ⟨d1, u1, none⟩) m l1, .slice (some ⟨d2, u2, none⟩) m l2, .slice (some ⟨d3, u3, none⟩) m l3].toArray 25)).alloc (.cells [Value.slice none 0 0, .slice none 0 0, .slice none 0 0, .slice none 0 0].toArray 25)).heap.size) := Lib.hid (by simp)
  clear hr hs h h' hM LM LN hn hm bb3
  go_enter Try.func17, Try.ntmps17
  go_wp2_with fail
  refine (specIs_any _ _ _ _ r _ _ A1.out (H1.out _ Bw.out)).mono ?_
  rw [HV.out]
  rintro _ _ ⟨rfl, k, rfl⟩
  have R := Lib.hid (R.out.drewN (n := k))
  have A1 := Lib.hid (A1.out.drewN (n := k))
  have A2 := Lib.hid (A2.out.drewN (n := k))
  have Bw := Lib.hid (below_drewN Bw.out k)
  have Z : Hid (w.heap.size + 3 ≤ ((((w.alloc (.cells [a, b, c, d].toArray 25)).alloc (.cells [Value.slice (some ⟨d0, u0, none⟩) m l0, .slice (some ⟨d1, u1, none⟩) m l1, .slice (some ⟨d2, u2, none⟩) m l2, .slice (some ⟨d3, u3, none⟩) m l3].toArray 25)).alloc (.cells [Value.slice none 0 0, .slice none 0 0, .slice none 0 0, .slice none 0 0].toArray 25)).drewN k).heap.size) := Lib.hid Z.out
  generalize ((((w.alloc (.cells [a, b, c, d].toArray 25)).alloc (.cells [Value.slice (some ⟨d0, u0, none⟩) m l0, .slice (some ⟨d1, u1, none⟩) m l1, .slice (some ⟨d2, u2, none⟩) m l2, .slice (some ⟨d3, u3, none⟩) m l3].toArray 25)).alloc (.cells [Value.slice none 0 0, .slice none 0 0, .slice none 0 0, .slice none 0 0].toArray 25)).drewN k) = w3 at *
  go_wp2_with fail
  refine (specIs_any _ _ _ _ s _ _ A2.out (H2.out _ Bw.out)).mono ?_
  rw [HV2.out]
  rintro _ _ ⟨rfl, k2, rfl⟩
  have R := Lib.hid (R.out.drewN (n := k2))
  have A1 := Lib.hid (A1.out.drewN (n := k2))
  have A2 := Lib.hid (A2.out.drewN (n := k2))
  have Bw := Lib.hid (below_drewN Bw.out k2)
  have Z : Hid (w.heap.size + 3 ≤ (w3.drewN k2).heap.size) := Lib.hid Z.out
  generalize w3.drewN k2 = w3b at *
  have c0 := A2.out.at 0 rfl; have c1 := A2.out.at 1 rfl; have c2 := A2.out.at 2 rfl; have c3 := A2.out.at 3 rfl
  go_wp2_with fail
  refine (Pr.specOwn_any _ _ _ _ r _ _ A1.out (H1.out _ Bw.out) SZ.out).mono ?_
  rintro _ w4 ⟨s0, s1, s2, s3, rfl, hQ, hb⟩
  obtain ⟨x0, y0, e0⟩ := hQ.o0.shape
  obtain ⟨x1, y1, e1⟩ := hQ.o1.shape
  obtain ⟨x2, y2, e2⟩ := hQ.o2.shape
  obtain ⟨x3, y3, e3⟩ := hQ.o3.shape
  rw [RL4.out.1] at e0; rw [RL4.out.2.1] at e1; rw [RL4.out.2.2.1] at e2; rw [RL4.out.2.2.2] at e3
  subst e0 e1 e2 e3
  obtain ⟨ba, hba⟩ : ∃ ba, ba = w3b.heap.size + 1 := ⟨_, rfl⟩
  rw [← hba] at hQ
  have ZB : Hid (w.heap.size + 3 ≤ ba) := Lib.hid (by have := Z.out; omega)
  have WP : Hid (w.heap.size + 3 ≤ w4.heap.size) := Lib.hid (Nat.le_trans Z.out hb.size)
  have ne1 : ¬ w4.heap.size = w.heap.size + 1 := by have := WP.out; omega
  have ne2 : ¬ w.heap.size + 1 = w4.heap.size := by have := WP.out; omega
  have ha := below_al1 w4 (.cells [Value.slice x0 n y0, .slice x1 n y1, .slice x2 n y2, .slice x3 n y3].toArray 25)
  have HB0 : Hid (ba ≤ (w4.alloc (.cells [Value.slice x0 n y0, .slice x1 n y1, .slice x2 n y2, .slice x3 n y3].toArray 25)).heap.size) := Lib.hid (by have := hb.size; simp; omega)
  have QQ0 := Lib.hid (hQ.box (.cells [Value.slice x0 n y0, .slice x1 n y1, .slice x2 n y2, .slice x3 n y3].toArray 25))
  have X0 := Lib.hid (Cells.made w4 [.slice x0 n y0, .slice x1 n y1, .slice x2 n y2, .slice x3 n y3] 25)
  have R0 := Lib.hid ((R.out.kept hb).kept ha)
  have C0 := Lib.hid ((A2.out.kept hb).kept ha)
  have Bw0 := Lib.hid (below_step (below_step Bw.out hb) ha)
  obtain ⟨N, hN⟩ : ∃ N, N = n + m := ⟨_, rfl⟩
  have RN : Hid (r.W.length + m = N ∧ r.E.length + m = N ∧ r.H.length + m = N ∧ r.T.length + m = N) := Lib.hid (by have h := RL4.out; omega)
  have SM : Hid (r.W.length ≤ 1048576 ∧ r.E.length ≤ 1048576 ∧ r.H.length ≤ 1048576 ∧ r.T.length ≤ 1048576) := Lib.hid (by have h := RL4.out; have := NQ.out; omega)
  clear hb hQ hba A1 A2 R Bw Z ha c0 c1 c2 c3 hN
  have x00 := X0.out.at 0 rfl; have x01 := X0.out.at 1 rfl; have x02 := X0.out.at 2 rfl; have x03 := X0.out.at 3 rfl; have xf0 := X0.out.fz
  have c00 := C0.out.at 0 rfl; have c01 := C0.out.at 1 rfl; have c02 := C0.out.at 2 rfl; have c03 := C0.out.at 3 rfl
  go_wp2_with (first | (at_builtin; refine wpList_cat32L rfl _ _ rfl ba _ r.T s.T rfl QQ3.out.q.o0 d3 u3 l3 m N SL.out.2.2.2 RN.out.2.2.2 rfl (LZ.out _ Bw3.out).T SM.out.2.2.2 MP.out (Nat.le_trans MQ.out (by decide)) HB3.out ?_; intro g3 k3 v3 h0 ht hg hl; obtain ⟨QQ4, Bw4, HB4, X4, C4, R4, XX, CC⟩ := catStep (B := w.heap.size) (i := 3) (Nat.le_trans (Nat.le_add_right _ 3) ZB.out) QQ3.out Bw3.out (Nat.le_trans (Nat.le_trans (Nat.le_add_right _ 3) ZB.out) HB3.out) (Nat.le_trans (Nat.le_add_right _ 3) WP.out) X3.out C3.out (by have := ZB.out; omega) (by have := WP.out; omega) R3.out (by have := ZB.out; omega) (by have := WP.out; omega) (by simp) h0 ht hg; have HB4 : Hid (ba ≤ (v3.setCell ⟨w4.heap.size, 3, none⟩ (.slice (some ⟨g3, 0, none⟩) N k3)).heap.size) := Lib.hid (Nat.le_trans HB3.out (Nat.le_trans ht.size (Tur.setCell _ _ _ _).size)); clear x30 x31 x32 x33 c30 c31 c32 c33 xf3; have x40 := XX.at 0 rfl; have x41 := XX.at 1 rfl; have x42 := XX.at 2 rfl; have x43 := XX.at 3 rfl; have c40 := CC.at 0 rfl; have c41 := CC.at 1 rfl; have c42 := CC.at 2 rfl; have c43 := CC.at 3 rfl; have xf4 := XX.fz; clear h0 ht hg hl XX CC) | (at_builtin; refine wpList_cat32L rfl _ _ rfl ba _ r.H s.H rfl QQ2.out.q.o0 d2 u2 l2 m N SL.out.2.2.1 RN.out.2.2.1 rfl (LZ.out _ Bw2.out).H SM.out.2.2.1 MP.out (Nat.le_trans MQ.out (by decide)) HB2.out ?_; intro g2 k2 v2 h0 ht hg hl; obtain ⟨QQ3, Bw3, HB3, X3, C3, R3, XX, CC⟩ := catStep (B := w.heap.size) (i := 2) (Nat.le_trans (Nat.le_add_right _ 3) ZB.out) QQ2.out Bw2.out (Nat.le_trans (Nat.le_trans (Nat.le_add_right _ 3) ZB.out) HB2.out) (Nat.le_trans (Nat.le_add_right _ 3) WP.out) X2.out C2.out (by have := ZB.out; omega) (by have := WP.out; omega) R2.out (by have := ZB.out; omega) (by have := WP.out; omega) (by simp) h0 ht hg; have HB3 : Hid (ba ≤ (v2.setCell ⟨w4.heap.size, 2, none⟩ (.slice (some ⟨g2, 0, none⟩) N k2)).heap.size) := Lib.hid (Nat.le_trans HB2.out (Nat.le_trans ht.size (Tur.setCell _ _ _ _).size)); clear x20 x21 x22 x23 c20 c21 c22 c23 xf2; have x30 := XX.at 0 rfl; have x31 := XX.at 1 rfl; have x32 := XX.at 2 rfl; have x33 := XX.at 3 rfl; have c30 := CC.at 0 rfl; have c31 := CC.at 1 rfl; have c32 := CC.at 2 rfl; have c33 := CC.at 3 rfl; have xf3 := XX.fz; clear h0 ht hg hl XX CC) | (at_builtin; refine wpList_cat32L rfl _ _ rfl ba _ r.E s.E rfl QQ1.out.q.o0 d1 u1 l1 m N SL.out.2.1 RN.out.2.1 rfl (LZ.out _ Bw1.out).E SM.out.2.1 MP.out (Nat.le_trans MQ.out (by decide)) HB1.out ?_; intro g1 k1 v1 h0 ht hg hl; obtain ⟨QQ2, Bw2, HB2, X2, C2, R2, XX, CC⟩ := catStep (B := w.heap.size) (i := 1) (Nat.le_trans (Nat.le_add_right _ 3) ZB.out) QQ1.out Bw1.out (Nat.le_trans (Nat.le_trans (Nat.le_add_right _ 3) ZB.out) HB1.out) (Nat.le_trans (Nat.le_add_right _ 3) WP.out) X1.out C1.out (by have := ZB.out; omega) (by have := WP.out; omega) R1.out (by have := ZB.out; omega) (by have := WP.out; omega) (by simp) h0 ht hg; have HB2 : Hid (ba ≤ (v1.setCell ⟨w4.heap.size, 1, none⟩ (.slice (some ⟨g1, 0, none⟩) N k1)).heap.size) := Lib.hid (Nat.le_trans HB1.out (Nat.le_trans ht.size (Tur.setCell _ _ _ _).size)); clear x10 x11 x12 x13 c10 c11 c12 c13 xf1; have x20 := XX.at 0 rfl; have x21 := XX.at 1 rfl; have x22 := XX.at 2 rfl; have x23 := XX.at 3 rfl; have c20 := CC.at 0 rfl; have c21 := CC.at 1 rfl; have c22 := CC.at 2 rfl; have c23 := CC.at 3 rfl; have xf2 := XX.fz; clear h0 ht hg hl XX CC) | (at_builtin; refine wpList_cat32L rfl _ _ rfl ba _ r.W s.W rfl QQ0.out.q.o0 d0 u0 l0 m N SL.out.1 RN.out.1 rfl (LZ.out _ Bw0.out).W SM.out.1 MP.out (Nat.le_trans MQ.out (by decide)) HB0.out ?_; intro g0 k0 v0 h0 ht hg hl; obtain ⟨QQ1, Bw1, HB1, X1, C1, R1, XX, CC⟩ := catStep (B := w.heap.size) (i := 0) (Nat.le_trans (Nat.le_add_right _ 3) ZB.out) QQ0.out Bw0.out (Nat.le_trans (Nat.le_trans (Nat.le_add_right _ 3) ZB.out) HB0.out) (Nat.le_trans (Nat.le_add_right _ 3) WP.out) X0.out C0.out (by have := ZB.out; omega) (by have := WP.out; omega) R0.out (by have := ZB.out; omega) (by have := WP.out; omega) (by simp) h0 ht hg; have HB1 : Hid (ba ≤ (v0.setCell ⟨w4.heap.size, 0, none⟩ (.slice (some ⟨g0, 0, none⟩) N k0)).heap.size) := Lib.hid (Nat.le_trans HB0.out (Nat.le_trans ht.size (Tur.setCell _ _ _ _).size)); clear x00 x01 x02 x03 c00 c01 c02 c03 xf0; have x10 := XX.at 0 rfl; have x11 := XX.at 1 rfl; have x12 := XX.at 2 rfl; have x13 := XX.at 3 rfl; have c10 := CC.at 0 rfl; have c11 := CC.at 1 rfl; have c12 := CC.at 2 rfl; have c13 := CC.at 3 rfl; have xf1 := XX.fz; clear h0 ht hg hl XX CC))
  have RW := Lib.hid (show RRow _ _ _ _ _ (joR r s) from ⟨QQ4.out.q.o0.row (by have := JS.out; simp only [joR, RL.size] at this; omega), QQ4.out.q.o1.row (by have := JS.out; simp only [joR, RL.size] at this; omega), QQ4.out.q.o2.row (by have := JS.out; simp only [joR, RL.size] at this; omega), QQ4.out.q.o3.row (by have := JS.out; simp only [joR, RL.size] at this; omega)⟩)
  have CG := Lib.hid (specGive_any _ _ _ _ _ _ RW.out)
  refine CG.out.mono ?_
  unfold GiveP ifR nilRd
  cases hb : vRod (joR r s)
  all_goals
    simp only [cond_true, cond_false]
    rintro _ w9 ⟨rfl, hb8⟩
    have R := Lib.hid (R4.out.kept hb8)
    have Q := Lib.hid (QQ4.out.q.kept hb8)
    have Bw := Lib.hid (below_step Bw4.out hb8)
    clear hb8 CG RW x40 x41 x42 x43 xf4 c40 c41 c42 c43
    have r0 := R.out.at 0 rfl; have r1 := R.out.at 1 rfl; have r2 := R.out.at 2 rfl; have r3 := R.out.at 3 rfl; have rf := R.out.fz
    go_wp2
  · refine bodyPost_ret (v := .tuple #[.agg #[.slice none 0 0, .slice none 0 0, .slice none 0 0, .slice none 0 0], .bool false]) ?_ rfl ?_
    · rw [results_cell_tmp rfl]
      go_simp
    · rw [OK.out, hb]
      exact ⟨_, _, _, _, rfl, nil_row _, below_set4n Bw.out (by omega) _ _ _ _⟩
  · refine bodyPost_ret (v := .tuple #[.agg #[.slice (some ⟨g0, 0, none⟩) N k0, .slice (some ⟨g1, 0, none⟩) N k1, .slice (some ⟨g2, 0, none⟩) N k2, .slice (some ⟨g3, 0, none⟩) N k3], .bool true]) ?_ rfl ?_
    · rw [results_cell_tmp rfl]
      go_simp
    · rw [OK.out, hb]
      have Q2 := (((Q.out.far (p := w.heap.size + 2) (by have := ZB.out; omega) 0 (.slice (some ⟨g0, 0, none⟩) N k0)).far (p := w.heap.size + 2) (by have := ZB.out; omega) 1 (.slice (some ⟨g1, 0, none⟩) N k1)).far (p := w.heap.size + 2) (by have := ZB.out; omega) 2 (.slice (some ⟨g2, 0, none⟩) N k2)).far (p := w.heap.size + 2) (by have := ZB.out; omega) 3 (.slice (some ⟨g3, 0, none⟩) N k3)
      exact ⟨_, _, _, _, rfl, ⟨Q2.o0.row (by have := JS.out; simp only [joR, RL.size] at this; omega), Q2.o1.row (by have := JS.out; simp only [joR, RL.size] at this; omega), Q2.o2.row (by have := JS.out; simp only [joR, RL.size] at this; omega), Q2.o3.row (by have := JS.out; simp only [joR, RL.size] at this; omega)⟩, below_set4n Bw.out (by omega) _ _ _ _⟩
theorem specJo_any (a b c d a' b' c' d' : Value) (r s : RL) (w : World) (h : RRow w a b c d r) (h' : RRow w a' b' c' d' s) : Calls Try.prog 17 #[.agg #[a, b, c, d], .agg #[a', b', c', d']] w (RdB (joB r s) (joS r s) w) := by
  cases hr : vRod r
  · exact specJo_no _ _ _ _ _ _ _ _ r s w h h' (by simp [hr])
  · cases hs : vRod s
    · exact specJo_no _ _ _ _ _ _ _ _ r s w h h' (by simp [hs])
    · exact specJo_yes _ _ _ _ _ _ _ _ r s w h h' hr hs
end Go.Proofs.Ytkbdidpodcclfaa

/- JoinRods: the law's walk. -/
namespace Go.Proofs.Ytkbdidpodcclfaa
open Go.RowKit
set_option linter.unusedVariables false

theorem fnExactJoinRods_walk (a b c d : Value) (r : RL) (a' b' c' d' : Value) (s : RL) (w : World) (h : RRow w a b c d r) (h' : RRow w a' b' c' d' s) : Calls Try.prog 4 #[.agg #[a, b, c, d], .agg #[a', b', c', d']] w (Tru w) :=
  fnExactJoinRods_law a b c d r a' b' c' d' s (joB r s) (joS r s) (joS_small r s) (fun a b c d a' b' c' d' w1 h h' => specJo_any a b c d a' b' c' d' r s w1 h h') (fun a b c d a' b' c' d' w1 h h' => implJo_any a b c d a' b' c' d' r s w1 h h') w h h'
end Go.Proofs.Ytkbdidpodcclfaa
