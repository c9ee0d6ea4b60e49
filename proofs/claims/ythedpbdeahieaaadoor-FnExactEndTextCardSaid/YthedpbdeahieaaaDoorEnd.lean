/- Ends of rods: their copies, whether they are valid. -/
import Derived.Test.YthedpbdeahieaaaDoorIn
namespace Go.Proofs.YthedpbdeahieaaaDoor
open Go.RowKit

/-- an end, by value -/
def endV (k : Int) (x y : Nat) : Value := .agg #[.int .i64 k, .float .f32 x, .float .f32 y]

def kOk (k : Int) : Bool := decide (0 ≤ k) && decide (k ≤ 2)
def vEnd (k : Int) (x y : Nat) : Bool := kOk k && fin .f32 x && pos y

theorem toEnd_any (k : Int) (x y : Nat) (w : World) : Calls Tryd.prog 39 #[endV k x y] w fun e w' => e = .returned (endV k x y) ∧ Below w.heap.size w w' := by
  unfold endV
  go_enter Tryd.func39, Tryd.ntmps39
  go_wp2
  refine bodyPost_ret (v := .agg #[.int .i64 k, .float .f32 x, .float .f32 y]) ?_ rfl ?_
  · rw [results_cell1 rfl]
    go_simp
  · exact ⟨rfl, below_al3 _ _ _ _⟩

theorem specEnd_any (k : Int) (x y : Nat) (b : Nat) (w : World) (h0 : w.cell? ⟨b, 0, none⟩ = some (.int .i64 k)) (h1 : w.cell? ⟨b, 1, none⟩ = some (.float .f32 x)) (h2 : w.cell? ⟨b, 2, none⟩ = some (.float .f32 y)) :
    Calls Tryd.prog 74 #[.pointer (some ⟨b, 0, none⟩)] w (Bol (vEnd k x y) w) := by
  cases hk : kOk k
  · have hk' : (decide ((0:Int) ≤ k) && decide (k ≤ 2)) = false := hk
    go_enter Tryd.func74, Tryd.ntmps74
    go_wp2_with (first | (go_at_call 92; refine (in_any k 0 2 _).mono ?_; rw [hk']; rintro e w' ⟨rfl, rfl⟩) | (go_at_call 99; refine (specFinite_any _ _).mono ?_; rw [hf]; rintro e w' ⟨rfl, n, rfl⟩))
    go_ret
    exact ⟨by simp [vEnd, hk], 0, rfl⟩
  · have hk' : (decide ((0:Int) ≤ k) && decide (k ≤ 2)) = true := hk
    cases hf : fin .f32 x
    · go_enter Tryd.func74, Tryd.ntmps74
      go_wp2_with (first | (go_at_call 92; refine (in_any k 0 2 _).mono ?_; rw [hk']; rintro e w' ⟨rfl, rfl⟩) | (go_at_call 99; refine (specFinite_any _ _).mono ?_; rw [hf]; rintro e w' ⟨rfl, n, rfl⟩))
      go_ret
      exact ⟨by simp [vEnd, hf], _, rfl⟩
    · go_enter Tryd.func74, Tryd.ntmps74
      go_wp2_with (first | (go_at_call 92; refine (in_any k 0 2 _).mono ?_; rw [hk']; rintro e w' ⟨rfl, rfl⟩) | (go_at_call 99; refine (specFinite_any _ _).mono ?_; rw [hf]; rintro e w' ⟨rfl, n, rfl⟩) | (go_at_call 98; refine (specAbove_any _ _).mono ?_; rintro e w' ⟨rfl, n, rfl⟩))
      go_ret
      exact ⟨by simp [vEnd, hf, hk], _, rfl⟩


theorem implVEnd_any (k : Int) (x y : Nat) (w : World) : Calls Tryd.prog 76 #[endV k x y] w (BolB (vEnd k x y) w) := by
  unfold endV
  by_cases h0 : 0 ≤ k
  · by_cases h2 : k ≤ 2
    · have hk : kOk k = true := by simp [kOk, h0, h2]
      cases hf : fin .f32 x
      · go_enter Tryd.func76, Tryd.ntmps76
        go_wp2_with (first | (go_at_call 102; refine (implFinite_any _ _).mono ?_; rw [hf]; rintro e w' ⟨rfl, n, rfl⟩) | (go_at_call 101; refine (implPos_any _ _).mono ?_; rintro e w' ⟨rfl, n, rfl⟩))
        go_ret
        exact ⟨by simp [vEnd, hf], below_drewN (below_al1 _ _) _⟩
      · go_enter Tryd.func76, Tryd.ntmps76
        go_wp2_with (first | (go_at_call 102; refine (implFinite_any _ _).mono ?_; rw [hf]; rintro e w' ⟨rfl, n, rfl⟩) | (go_at_call 101; refine (implPos_any _ _).mono ?_; rintro e w' ⟨rfl, n, rfl⟩))
        go_ret
        exact ⟨by simp [vEnd, hf, hk], by simpa using below_drewN (below_al1 _ _) _⟩
    · have hk : kOk k = false := by simp [kOk, h2]
      go_enter Tryd.func76, Tryd.ntmps76
      go_wp2
      go_ret
      exact ⟨by simp [vEnd, hk], below_al1 _ _⟩
  · have hk : kOk k = false := by simp [kOk, h0]
    go_enter Tryd.func76, Tryd.ntmps76
    go_wp2
    go_ret
    exact ⟨by simp [vEnd, hk], below_al1 _ _⟩

end Go.Proofs.YthedpbdeahieaaaDoor
