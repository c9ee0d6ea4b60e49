/- Ends of rods: their copies, whether they are valid. -/
import Derived.Test.YtplepddciilbdaaPos
namespace Go.Proofs.Ytplepddciilbdaa
open Go.RowKit

/-- an end, by value -/
def endV (k : Int) (x y : Nat) : Value := .agg #[.int .i64 k, .float .f32 x, .float .f32 y]

def kOk (k : Int) : Bool := decide (0 ≤ k) && decide (k ≤ 2)
def vEnd (k : Int) (x y : Nat) : Bool := kOk k && fin .f32 x && pos y

theorem toEnd_any (k : Int) (x y : Nat) (w : World) : Calls Try.prog 23 #[endV k x y] w fun e w' => e = .returned (endV k x y) ∧ Below w.heap.size w w' := by
  unfold endV
  go_enter Try.func23, Try.ntmps23
  go_wp2
  refine bodyPost_ret (v := .agg #[.int .i64 k, .float .f32 x, .float .f32 y]) ?_ rfl ?_
  · rw [results_cell1 rfl]
    go_simp
  · exact ⟨rfl, below_al3 _ _ _ _⟩

theorem specEnd_any (k : Int) (x y : Nat) (b : Nat) (w : World) (h0 : w.cell? ⟨b, 0, none⟩ = some (.int .i64 k)) (h1 : w.cell? ⟨b, 1, none⟩ = some (.float .f32 x)) (h2 : w.cell? ⟨b, 2, none⟩ = some (.float .f32 y)) :
    Calls Try.prog 54 #[.pointer (some ⟨b, 0, none⟩)] w (Bol (vEnd k x y) w) := by
  cases hk : kOk k
  · have hk' : (decide ((0:Int) ≤ k) && decide (k ≤ 2)) = false := hk
    go_enter Try.func54, Try.ntmps54
    go_wp2_with (first | (go_at_call 67; refine (in_any k 0 2 _).mono ?_; rw [hk']; rintro e w' ⟨rfl, rfl⟩) | (go_at_call 79; refine (specFinite_any _ _).mono ?_; rw [hf]; rintro e w' ⟨rfl, n, rfl⟩))
    go_ret
    exact ⟨by simp [vEnd, hk], 0, rfl⟩
  · have hk' : (decide ((0:Int) ≤ k) && decide (k ≤ 2)) = true := hk
    cases hf : fin .f32 x
    · go_enter Try.func54, Try.ntmps54
      go_wp2_with (first | (go_at_call 67; refine (in_any k 0 2 _).mono ?_; rw [hk']; rintro e w' ⟨rfl, rfl⟩) | (go_at_call 79; refine (specFinite_any _ _).mono ?_; rw [hf]; rintro e w' ⟨rfl, n, rfl⟩))
      go_ret
      exact ⟨by simp [vEnd, hf], _, rfl⟩
    · go_enter Try.func54, Try.ntmps54
      go_wp2_with (first | (go_at_call 67; refine (in_any k 0 2 _).mono ?_; rw [hk']; rintro e w' ⟨rfl, rfl⟩) | (go_at_call 79; refine (specFinite_any _ _).mono ?_; rw [hf]; rintro e w' ⟨rfl, n, rfl⟩) | (go_at_call 74; refine (specAbove_any _ _).mono ?_; rintro e w' ⟨rfl, n, rfl⟩))
      go_ret
      exact ⟨by simp [vEnd, hf, hk], _, rfl⟩

theorem specVEnd_any (k : Int) (x y : Nat) (w : World) : Calls Try.prog 22 #[endV k x y] w (BolB (vEnd k x y) w) := by
  unfold endV
  go_enter Try.func22, Try.ntmps22
  go_wp2_with (go_at_call 54; refine (specEnd_any k x y _ _ (by simp) (by simp) (by simp)).mono ?_; rintro e w' ⟨rfl, n, rfl⟩)
  go_ret
  exact ⟨rfl, below_drewN (below_al1 _ _) _⟩

theorem implVEnd_any (k : Int) (x y : Nat) (w : World) : Calls Try.prog 24 #[endV k x y] w (BolB (vEnd k x y) w) := by
  unfold endV
  by_cases h0 : 0 ≤ k
  · by_cases h2 : k ≤ 2
    · have hk : kOk k = true := by simp [kOk, h0, h2]
      cases hf : fin .f32 x
      · go_enter Try.func24, Try.ntmps24
        go_wp2_with (first | (go_at_call 49; refine (implFinite_any _ _).mono ?_; rw [hf]; rintro e w' ⟨rfl, n, rfl⟩) | (go_at_call 48; refine (implPos_any _ _).mono ?_; rintro e w' ⟨rfl, n, rfl⟩))
        go_ret
        exact ⟨by simp [vEnd, hf], below_drewN (below_al1 _ _) _⟩
      · go_enter Try.func24, Try.ntmps24
        go_wp2_with (first | (go_at_call 49; refine (implFinite_any _ _).mono ?_; rw [hf]; rintro e w' ⟨rfl, n, rfl⟩) | (go_at_call 48; refine (implPos_any _ _).mono ?_; rintro e w' ⟨rfl, n, rfl⟩))
        go_ret
        exact ⟨by simp [vEnd, hf, hk], by simpa using below_drewN (below_al1 _ _) _⟩
    · have hk : kOk k = false := by simp [kOk, h2]
      go_enter Try.func24, Try.ntmps24
      go_wp2
      go_ret
      exact ⟨by simp [vEnd, hk], below_al1 _ _⟩
  · have hk : kOk k = false := by simp [kOk, h0]
    go_enter Try.func24, Try.ntmps24
    go_wp2
    go_ret
    exact ⟨by simp [vEnd, hk], below_al1 _ _⟩

theorem fnExactValidEnd_walk (k : Int) (x y : Nat) (w : World) (_ : (Lit.int .i64 k).wf = true) (_ : (Lit.float .f32 x).wf = true) (_ : (Lit.float .f32 y).wf = true) :
    Calls Try.prog 5 #[.agg #[.int .i64 k, .float .f32 x, .float .f32 y]] w (Tru w) := by
  have A := Lib.hid (Cells.made w [.int .i64 k, .float .f32 x, .float .f32 y] 34)
  have Bw := Lib.hid (below_al1 w (.cells [Value.int .i64 k, .float .f32 x, .float .f32 y].toArray 34))
  go_enter Try.func5, Try.ntmps5
  go_wp2_with (first | (go_at_call 23; refine (toEnd_any k x y _).mono ?_; rintro e w' ⟨rfl, hb⟩; (first | (have Bw := Lib.hid (below_step Bw.out hb)) | (have Bw := Lib.hid (below_step Bw.out (below_undrew hb))) | (have Bw := Lib.hid (below_step Bw.out (below_unal hb))) | (have Bw := Lib.hid (below_step Bw.out (below_unal (below_undrew hb)))) | (have Bw := Lib.hid (below_step Bw.out (below_undrew (below_unal hb)))) | (have Bw := Lib.hid (below_step Bw.out (below_unal (below_unal hb))))); (first | (have A := Lib.hid (A.out.kept hb)) | (have A := Lib.hid (A.out.kept (below_undrew hb))) | (have A := Lib.hid (A.out.kept (below_unal hb))) | (have A := Lib.hid (A.out.kept (below_unal (below_undrew hb)))) | (have A := Lib.hid (A.out.kept (below_undrew (below_unal hb)))) | (have A := Lib.hid (A.out.kept (below_unal (below_unal hb))))); have c0 := A.out.at 0 rfl; have c1 := A.out.at 1 rfl; have c2 := A.out.at 2 rfl; clear hb) | (go_at_call 22; refine (specVEnd_any k x y _).mono ?_; rintro e w' ⟨rfl, hb⟩; (first | (have Bw := Lib.hid (below_step Bw.out hb)) | (have Bw := Lib.hid (below_step Bw.out (below_undrew hb))) | (have Bw := Lib.hid (below_step Bw.out (below_unal hb))) | (have Bw := Lib.hid (below_step Bw.out (below_unal (below_undrew hb)))) | (have Bw := Lib.hid (below_step Bw.out (below_undrew (below_unal hb)))) | (have Bw := Lib.hid (below_step Bw.out (below_unal (below_unal hb))))); (first | (have A := Lib.hid (A.out.kept hb)) | (have A := Lib.hid (A.out.kept (below_undrew hb))) | (have A := Lib.hid (A.out.kept (below_unal hb))) | (have A := Lib.hid (A.out.kept (below_unal (below_undrew hb)))) | (have A := Lib.hid (A.out.kept (below_undrew (below_unal hb)))) | (have A := Lib.hid (A.out.kept (below_unal (below_unal hb))))); have c0 := A.out.at 0 rfl; have c1 := A.out.at 1 rfl; have c2 := A.out.at 2 rfl; clear hb) | (go_at_call 24; refine (implVEnd_any k x y _).mono ?_; rintro e w' ⟨rfl, hb⟩; (first | (have Bw := Lib.hid (below_step Bw.out hb)) | (have Bw := Lib.hid (below_step Bw.out (below_undrew hb))) | (have Bw := Lib.hid (below_step Bw.out (below_unal hb))) | (have Bw := Lib.hid (below_step Bw.out (below_unal (below_undrew hb)))) | (have Bw := Lib.hid (below_step Bw.out (below_undrew (below_unal hb)))) | (have Bw := Lib.hid (below_step Bw.out (below_unal (below_unal hb))))); (first | (have A := Lib.hid (A.out.kept hb)) | (have A := Lib.hid (A.out.kept (below_undrew hb))) | (have A := Lib.hid (A.out.kept (below_unal hb))) | (have A := Lib.hid (A.out.kept (below_unal (below_undrew hb)))) | (have A := Lib.hid (A.out.kept (below_undrew (below_unal hb)))) | (have A := Lib.hid (A.out.kept (below_unal (below_unal hb))))); have c0 := A.out.at 0 rfl; have c1 := A.out.at 1 rfl; have c2 := A.out.at 2 rfl; clear hb))
  go_ret
  exact Tru.below Bw.out
end Go.Proofs.Ytplepddciilbdaa
