/- The neighbours of a cell of a plate: what the specification hands back. -/
import Derived.Test.YtkmfinegmkacpabPlLay
import Derived.BigRegion
namespace Go.Proofs.Ytkmfinegmkacpab
open Go.RowKit
set_option linter.unusedVariables false

/-- the sides of a plate as numbers, and one of its cells -/
structure Sd (r : PL) (x y n : Nat) : Prop where
  X : r.X = (x : Int)
  Y : r.Y = (y : Int)
  x1 : 1 ≤ x
  x2 : x ≤ 12
  y1 : 1 ≤ y
  y2 : y ≤ 12
  xy : x * y = n
  n9 : n ≤ 144
theorem Sd.of {r : PL} {n : Nat} (h : PlN r n) : ∃ x y, Sd r x y n := by
  refine ⟨r.X.toNat, r.Y.toNat, by have := h.X1; omega, by have := h.Y1; omega, by have := h.X1; omega, by have := h.X2; omega, by have := h.Y1; omega, by have := h.Y2; omega, ?_, h.q⟩
  have h1 := h.xy
  have h2 := h.X1
  have h3 := h.Y1
  have e : ((r.X.toNat * r.Y.toNat : Nat) : Int) = r.X * r.Y := by rw [Int.natCast_mul, Int.toNat_of_nonneg (by omega), Int.toNat_of_nonneg (by omega)]
  omega
def nr0 (x k : Nat) : Int := bif decide (k < x) then -1 else (k : Int) - (x : Int)
def nr1 (x k : Nat) : Int := bif ((k : Int) % (x : Int) == 0) then -1 else (k : Int) - 1
def nr2 (x k : Nat) : Int := bif ((k : Int) % (x : Int) == (x : Int) - 1) then -1 else (k : Int) + 1
def nr3 (x z k : Nat) : Int := bif decide (z ≤ k) then -1 else (k : Int) + (x : Int)
def nvs (x z k : Nat) : List Value := [.int .i64 (nr0 x k), .int .i64 (nr1 x k), .int .i64 (nr2 x k), .int .i64 (nr3 x z k)]
/-- the four neighbours, in a block of their own -/
def Near4 (x z k : Nat) (w : World) (e : Ending) (w' : World) : Prop := ∃ g, e = .returned (.slice (some ⟨g, 0, none⟩) 4 4) ∧ w.heap.size ≤ g ∧ Cells w' g (nvs x z k) ∧ Below w.heap.size w w'

theorem near_cells (w : World) (a b c d : Value) (t : TypeId) : Cells (w.alloc (.cells #[a, b, c, d] t)).drew.drew.drew w.heap.size [a, b, c, d] := Cells.made w [a, b, c, d] t
theorem near_below (w : World) (o : Obj) : Below w.heap.size w (w.alloc o).drew.drew.drew := below_drewN (below_al1 w o) 3

set_option maxRecDepth 10000 in
set_option maxHeartbeats 1600000 in
theorem specNear_any (x y z n k : Nat) (a b c d : Value) (r : PL) (p : Nat) (w : World) (A : Cells w p (pvs r a b c d)) (S : Sd r x y n) (hz : x * (y - 1) = z) (hk : k < n) :
    Calls Try.prog 60 #[.pointer (some ⟨p, 0, none⟩), .int .i64 (k : Int)] w (Near4 x z k w) := by
  obtain ⟨hX, hY, x1, x2, y1, y2, xy, n9⟩ := S
  have c0 := A.at 0 rfl
  have c1 := A.at 1 rfl
  have hp := A.lt
  rw [hX] at c0
  rw [hY] at c1
  have z9 : z ≤ 144 := by
    have : x * (y - 1) ≤ x * y := Nat.mul_le_mul_left _ (by omega)
    omega
  have hz' : (x : Int) * ((y : Int) - 1) = (z : Int) := by rw [← hz, Int.natCast_mul, Int.ofNat_sub y1]; rfl
  have k9 : k < 144 := by omega
  have N0 : Hid (nr0 x k = bif decide (k < x) then -1 else (k : Int) - (x : Int)) := Lib.hid rfl
  have N1 : Hid (nr1 x k = bif ((k : Int) % (x : Int) == 0) then -1 else (k : Int) - 1) := Lib.hid rfl
  have N2 : Hid (nr2 x k = bif ((k : Int) % (x : Int) == (x : Int) - 1) then -1 else (k : Int) + 1) := Lib.hid rfl
  have N3 : Hid (nr3 x z k = bif decide (z ≤ k) then -1 else (k : Int) + (x : Int)) := Lib.hid rfl
  unfold Near4 nvs
  generalize nr0 x k = m0 at *
  generalize nr1 x k = m1 at *
  generalize nr2 x k = m2 at *
  generalize nr3 x z k = m3 at *
  clear A hX hY hz xy n9 hk
  cases f0 : decide (k < x) <;> cases f1 : ((k : Int) % (x : Int) == 0) <;> cases f2 : ((k : Int) % (x : Int) == (x : Int) - 1) <;> cases f3 : decide (z ≤ k)
  all_goals have g3 := f3
  all_goals first | (have h3 : z ≤ k := of_decide_eq_true g3) | (have h3 : ¬ z ≤ k := of_decide_eq_false g3)
  all_goals first | (have f4 : decide ((z : Int) ≤ (k : Int)) = true := by simp; omega) | (have f4 : decide ((z : Int) ≤ (k : Int)) = false := by simp; omega)
  all_goals clear g3
  all_goals
    rw [f0] at N0
    rw [f1] at N1
    rw [f2] at N2
    rw [f3] at N3
    simp only [cond_false, cond_true] at N0 N1 N2 N3
    obtain rfl := N0.out
    obtain rfl := N1.out
    obtain rfl := N2.out
    obtain rfl := N3.out
    clear N0 N1 N2 N3
    go_enter Try.func60, Try.ntmps60
    go_wp2
    go_region
    go_wp2
    go_region
    go_wp2
    go_region
    go_wp2
    go_ret
    exact ⟨_, rfl, Nat.le_refl _, near_cells _ _ _ _ _ _, near_below _ _⟩
end Go.Proofs.Ytkmfinegmkacpab
