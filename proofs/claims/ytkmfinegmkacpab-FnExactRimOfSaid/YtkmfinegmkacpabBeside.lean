/- The neighbours of a cell of a plate: which there are, and what the program hands back. -/
import Derived.Test.YtkmfinegmkacpabNear
import Derived.OwnWalk
namespace Go.Proofs.Ytkmfinegmkacpab
open Go.RowKit
set_option linter.unusedVariables false

/-- the neighbour at a side, or -1 -/
def nbr (x z k : Nat) (j : Nat) : Int := match j with
  | 0 => nr0 x k
  | 1 => nr1 x k
  | 2 => nr2 x k
  | _ => nr3 x z k
theorem bdec {p : Prop} [Decidable p] {b : Bool} (h : p ↔ b = true) : decide p = b := by cases b <;> simp_all
theorem nb0 {x k : Nat} (hx : 1 ≤ x) : decide ((0 : Int) < (k : Int) / (x : Int)) = decide (0 ≤ nr0 x k) ∧ (0 ≤ nr0 x k → nr0 x k = (k : Int) - (x : Int) ∧ x ≤ k) := by
  unfold nr0
  by_cases h : k < x
  · have e : (k : Int) / (x : Int) = 0 := by rw [← Int.natCast_ediv, Nat.div_eq_of_lt h]; rfl
    simp [h, e]
  · have h1 : 1 ≤ k / x := (Nat.one_le_div_iff (by omega)).2 (by omega)
    have e : (1 : Int) ≤ (k : Int) / (x : Int) := by rw [← Int.natCast_ediv]; exact_mod_cast h1
    have e2 : decide ((0 : Int) < (k : Int) / (x : Int)) = true := by simp; omega
    have e3 : decide (k < x) = false := by simp; omega
    rw [e2, e3]
    simp only [cond_false]
    exact ⟨by simp; omega, fun _ => ⟨by trivial, by omega⟩⟩
theorem nb1 {x k : Nat} (hx : 1 ≤ x) : decide ((0 : Int) < (k : Int) % (x : Int)) = decide (0 ≤ nr1 x k) ∧ (0 ≤ nr1 x k → nr1 x k = (k : Int) - 1 ∧ 1 ≤ k) := by
  unfold nr1
  have hn : (0 : Int) ≤ (k : Int) % (x : Int) := Int.emod_nonneg _ (by omega)
  by_cases h : (k : Int) % (x : Int) = 0
  · simp [h]
  · have e3 : ((k : Int) % (x : Int) == 0) = false := by simpa using h
    have e2 : decide ((0 : Int) < (k : Int) % (x : Int)) = true := by simp; omega
    have hk : 1 ≤ k := by
      rcases Nat.eq_zero_or_pos k with h0 | h0
      · subst h0; simp at h
      · exact h0
    rw [e2, e3]
    simp only [cond_false]
    exact ⟨by simp; omega, fun _ => ⟨by trivial, hk⟩⟩
theorem nb2 {x k y n : Nat} (hx : 1 ≤ x) (hn : x * y = n) (hk : k < n) : decide ((k : Int) % (x : Int) < (x : Int) - 1) = decide (0 ≤ nr2 x k) ∧ (0 ≤ nr2 x k → nr2 x k = (k : Int) + 1 ∧ k + 1 < n) := by
  unfold nr2
  have hl : (k : Int) % (x : Int) < (x : Int) := Int.emod_lt_of_pos _ (by omega)
  by_cases h : (k : Int) % (x : Int) = (x : Int) - 1
  · simp [h]
  · have e3 : ((k : Int) % (x : Int) == (x : Int) - 1) = false := by simpa using h
    have e2 : decide ((k : Int) % (x : Int) < (x : Int) - 1) = true := by simp; omega
    have hm : k % x + 1 < x := by
      have : ((k % x : Nat) : Int) = (k : Int) % (x : Int) := Int.natCast_emod k x
      omega
    have hk1 : k + 1 < n := by
      rcases Nat.lt_or_ge (k + 1) n with h1 | h1
      · exact h1
      · exfalso
        have e : k + 1 = x * y := by omega
        have e1 : (k % x + 1) % x = (k + 1) % x := Nat.mod_add_mod k x 1
        rw [e, Nat.mul_mod_right, Nat.mod_eq_of_lt hm] at e1
        omega
    rw [e2, e3]
    simp only [cond_false]
    exact ⟨by simp; omega, fun _ => ⟨by trivial, hk1⟩⟩
theorem nb3 {x k y n z : Nat} (hx : 1 ≤ x) (hy : 1 ≤ y) (hn : x * y = n) (hz : x * (y - 1) = z) : decide ((k : Int) / (x : Int) < (y : Int) - 1) = decide (0 ≤ nr3 x z k) ∧ (0 ≤ nr3 x z k → nr3 x z k = (k : Int) + (x : Int) ∧ k + x < n) := by
  unfold nr3
  have key : k / x < y - 1 ↔ k < z := by rw [Nat.div_lt_iff_lt_mul (by omega), Nat.mul_comm, hz]
  have hd : ((k / x : Nat) : Int) = (k : Int) / (x : Int) := Int.natCast_ediv k x
  have hs : z + x = n := by
    have := Nat.mul_succ x (y - 1)
    rw [Nat.succ_eq_add_one, Nat.sub_add_cancel hy, hn, hz] at this
    omega
  by_cases h : z ≤ k
  · have e2 : decide ((k : Int) / (x : Int) < (y : Int) - 1) = false := by simp; omega
    have e3 : decide (z ≤ k) = true := by simpa using h
    rw [e2, e3]
    simp
  · have e2 : decide ((k : Int) / (x : Int) < (y : Int) - 1) = true := by simp; omega
    have e3 : decide (z ≤ k) = false := by simpa using h
    rw [e2, e3]
    simp only [cond_false]
    exact ⟨by simp; omega, fun _ => ⟨by trivial, by omega⟩⟩
theorem nbr_nat {x y z n k : Nat} {r : PL} (S : Sd r x y n) (hz : x * (y - 1) = z) (hk : k < n) (j : Nat) (h : 0 ≤ nbr x z k j) : ∃ m : Nat, nbr x z k j = (m : Int) ∧ m < n := by
  obtain ⟨hX, hY, x1, x2, y1, y2, xy, n9⟩ := S
  match j with
  | 0 => obtain ⟨e, h'⟩ := (nb0 (k := k) x1).2 h; exact ⟨k - x, by show nr0 x k = _; rw [e]; omega, by omega⟩
  | 1 => obtain ⟨e, h'⟩ := (nb1 (k := k) x1).2 h; exact ⟨k - 1, by show nr1 x k = _; rw [e]; omega, by omega⟩
  | 2 => obtain ⟨e, h'⟩ := (nb2 (k := k) x1 xy hk).2 h; exact ⟨k + 1, by show nr2 x k = _; rw [e]; omega, h'⟩
  | j + 3 => obtain ⟨e, h'⟩ := (nb3 (k := k) x1 y1 xy hz).2 h; exact ⟨k + x, by show nr3 x z k = _; rw [e]; omega, h'⟩

/-- a neighbour, and whether there is one -/
def Bes (m : Int) (w : World) (e : Ending) (w' : World) : Prop := ∃ v : Int, e = .returned (.tuple #[.int .i64 v, .bool (decide (0 ≤ m))]) ∧ (0 ≤ m → v = m) ∧ Below w.heap.size w w'

set_option maxRecDepth 10000 in
set_option maxHeartbeats 1600000 in
theorem beside0 (x y z n k : Nat) (a b c d : Value) (r : PL) (w : World) (S : Sd r x y n) (hz : x * (y - 1) = z) (hk : k < n) : Calls Try.prog 103 #[.agg #[.int .i64 r.X, .int .i64 r.Y, a, b, c, d], .int .i64 (k : Int), .int .i64 0] w (Bes (nbr x z k 0) w) := by
  obtain ⟨hX, hY, x1, x2, y1, y2, xy, n9⟩ := S
  show Calls Try.prog 103 _ w (Bes (nr0 x k) w)
  obtain ⟨f, g⟩ := nb0 (k := k) x1
  have G := Lib.hid (fun h => (g h).1.symm)
  have k9 : k < 144 := by omega
  rw [hX, hY]
  unfold Bes
  generalize nr0 x k = m at *
  generalize decide (0 ≤ m) = ok at *
  have q1 : (0 : Int) ≤ (k : Int) / (x : Int) := Int.ediv_nonneg (by omega) (by omega)
  have q2 : (k : Int) / (x : Int) ≤ (k : Int) := Int.ediv_le_self _ (by omega)
  clear g hz xy hX hY hk n9
  go_enter Try.func103, Try.ntmps103
  go_wp2
  go_region
  go_wp2
  skip
  go_ret2
  exact ⟨_, rfl, G.out, below_drewN (below_al1 _ _) 1⟩
set_option maxRecDepth 10000 in
set_option maxHeartbeats 1600000 in
theorem beside1 (x y z n k : Nat) (a b c d : Value) (r : PL) (w : World) (S : Sd r x y n) (hz : x * (y - 1) = z) (hk : k < n) : Calls Try.prog 103 #[.agg #[.int .i64 r.X, .int .i64 r.Y, a, b, c, d], .int .i64 (k : Int), .int .i64 1] w (Bes (nbr x z k 1) w) := by
  obtain ⟨hX, hY, x1, x2, y1, y2, xy, n9⟩ := S
  show Calls Try.prog 103 _ w (Bes (nr1 x k) w)
  obtain ⟨f, g⟩ := nb1 (k := k) x1
  have G := Lib.hid (fun h => (g h).1.symm)
  have k9 : k < 144 := by omega
  rw [hX, hY]
  unfold Bes
  generalize nr1 x k = m at *
  generalize decide (0 ≤ m) = ok at *
  have q1 : (0 : Int) ≤ (k : Int) / (x : Int) := Int.ediv_nonneg (by omega) (by omega)
  have q2 : (k : Int) / (x : Int) ≤ (k : Int) := Int.ediv_le_self _ (by omega)
  clear g hz xy hX hY hk n9
  go_enter Try.func103, Try.ntmps103
  go_wp2
  go_region
  go_wp2
  skip
  go_ret2
  exact ⟨_, rfl, G.out, below_drewN (below_al1 _ _) 1⟩
set_option maxRecDepth 10000 in
set_option maxHeartbeats 1600000 in
theorem beside2 (x y z n k : Nat) (a b c d : Value) (r : PL) (w : World) (S : Sd r x y n) (hz : x * (y - 1) = z) (hk : k < n) : Calls Try.prog 103 #[.agg #[.int .i64 r.X, .int .i64 r.Y, a, b, c, d], .int .i64 (k : Int), .int .i64 2] w (Bes (nbr x z k 2) w) := by
  obtain ⟨hX, hY, x1, x2, y1, y2, xy, n9⟩ := S
  show Calls Try.prog 103 _ w (Bes (nr2 x k) w)
  obtain ⟨f, g⟩ := nb2 (k := k) x1 xy hk
  have G := Lib.hid (fun h => (g h).1.symm)
  have k9 : k < 144 := by omega
  rw [hX, hY]
  unfold Bes
  generalize nr2 x k = m at *
  generalize decide (0 ≤ m) = ok at *
  have q1 : (0 : Int) ≤ (k : Int) / (x : Int) := Int.ediv_nonneg (by omega) (by omega)
  have q2 : (k : Int) / (x : Int) ≤ (k : Int) := Int.ediv_le_self _ (by omega)
  clear g hz xy hX hY hk n9
  go_enter Try.func103, Try.ntmps103
  go_wp2
  go_region
  go_wp2
  go_region
  go_wp2
  go_ret2
  exact ⟨_, rfl, G.out, below_drewN (below_al1 _ _) 2⟩
set_option maxRecDepth 10000 in
set_option maxHeartbeats 1600000 in
theorem beside3 (x y z n k : Nat) (a b c d : Value) (r : PL) (w : World) (S : Sd r x y n) (hz : x * (y - 1) = z) (hk : k < n) : Calls Try.prog 103 #[.agg #[.int .i64 r.X, .int .i64 r.Y, a, b, c, d], .int .i64 (k : Int), .int .i64 3] w (Bes (nbr x z k 3) w) := by
  obtain ⟨hX, hY, x1, x2, y1, y2, xy, n9⟩ := S
  show Calls Try.prog 103 _ w (Bes (nr3 x z k) w)
  obtain ⟨f, g⟩ := nb3 (k := k) x1 y1 xy hz
  have G := Lib.hid (fun h => (g h).1.symm)
  have k9 : k < 144 := by omega
  rw [hX, hY]
  unfold Bes
  generalize nr3 x z k = m at *
  generalize decide (0 ≤ m) = ok at *
  have q1 : (0 : Int) ≤ (k : Int) / (x : Int) := Int.ediv_nonneg (by omega) (by omega)
  have q2 : (k : Int) / (x : Int) ≤ (k : Int) := Int.ediv_le_self _ (by omega)
  clear g hz xy hX hY hk n9
  go_enter Try.func103, Try.ntmps103
  go_wp2
  go_region
  go_wp2
  go_region
  go_wp2
  go_ret2
  exact ⟨_, rfl, G.out, below_drewN (below_al1 _ _) 2⟩
theorem beside_any (x y z n k j : Nat) (hj : j < 4) (a b c d : Value) (r : PL) (w : World) (S : Sd r x y n) (hz : x * (y - 1) = z) (hk : k < n) : Calls Try.prog 103 #[.agg #[.int .i64 r.X, .int .i64 r.Y, a, b, c, d], .int .i64 (k : Int), .int .i64 (j : Int)] w (Bes (nbr x z k j) w) := by
  match j, hj with
  | 0, _ => exact beside0 x y z n k a b c d r w S hz hk
  | 1, _ => exact beside1 x y z n k a b c d r w S hz hk
  | 2, _ => exact beside2 x y z n k a b c d r w S hz hk
  | 3, _ => exact beside3 x y z n k a b c d r w S hz hk
end Go.Proofs.Ytkmfinegmkacpab
