/- Several texts in one, for a claim holds 60 files at most: Near Beside Bd Half2 Kp Zero FlowM LooseG FlowS FlowI Has FlowW Fu SnQ SnLQ. -/
import Derived.Test.YthfkmcpajookaaaYSA
import Derived.Test.YthfkmcpajookaaaYSB
import Derived.BigRegion
import Derived.OwnWalk
import Derived.Deep.RegionHeld3

/- The neighbours of a cell of a plate: what the specification hands back. -/
namespace Go.Proofs.Ythfkmcpajookaaa
open Go.RowKit
set_option linter.unusedVariables false

/-- the sides of a plate as numbers, and one of its cells -/
structure Sd (r : PL) (x y n : Nat) : Prop where
  X : r.X = (x : Int)
  Y : r.Y = (y : Int)
  x1 : 1 ≤ x
  x2 : x ≤ 12
  y1 : 1 ≤ y
  y2 : y ≤ 12
  xy : x * y = n
  n9 : n ≤ 144
theorem Sd.of {r : PL} {n : Nat} (h : PlN r n) : ∃ x y, Sd r x y n := by
  refine ⟨r.X.toNat, r.Y.toNat, by have := h.X1; omega, by have := h.Y1; omega, by have := h.X1; omega, by have := h.X2; omega, by have := h.Y1; omega, by have := h.Y2; omega, ?_, h.q⟩
  have h1 := h.xy
  have h2 := h.X1
  have h3 := h.Y1
  have e : ((r.X.toNat * r.Y.toNat : Nat) : Int) = r.X * r.Y := by rw [Int.natCast_mul, Int.toNat_of_nonneg (by omega), Int.toNat_of_nonneg (by omega)]
  omega
def nr0 (x k : Nat) : Int := bif decide (k < x) then -1 else (k : Int) - (x : Int)
def nr1 (x k : Nat) : Int := bif ((k : Int) % (x : Int) == 0) then -1 else (k : Int) - 1
def nr2 (x k : Nat) : Int := bif ((k : Int) % (x : Int) == (x : Int) - 1) then -1 else (k : Int) + 1
def nr3 (x z k : Nat) : Int := bif decide (z ≤ k) then -1 else (k : Int) + (x : Int)
def nvs (x z k : Nat) : List Value := [.int .i64 (nr0 x k), .int .i64 (nr1 x k), .int .i64 (nr2 x k), .int .i64 (nr3 x z k)]
/-- the four neighbours, in a block of their own -/
def Near4 (x z k : Nat) (w : World) (e : Ending) (w' : World) : Prop := ∃ g, e = .returned (.slice (some ⟨g, 0, none⟩) 4 4) ∧ w.heap.size ≤ g ∧ Cells w' g (nvs x z k) ∧ Below w.heap.size w w'

theorem near_cells (w : World) (a b c d : Value) (t : TypeId) : Cells (w.alloc (.cells #[a, b, c, d] t)).drew.drew.drew w.heap.size [a, b, c, d] := Cells.made w [a, b, c, d] t
theorem near_below (w : World) (o : Obj) : Below w.heap.size w (w.alloc o).drew.drew.drew := below_drewN (below_al1 w o) 3

set_option maxRecDepth 10000 in
set_option maxHeartbeats 1600000 in
theorem specNear_any (x y z n k : Nat) (a b c d : Value) (r : PL) (p : Nat) (w : World) (A : Cells w p (pvs r a b c d)) (S : Sd r x y n) (hz : x * (y - 1) = z) (hk : k < n) :
    Calls Try.prog 89 #[.pointer (some ⟨p, 0, none⟩), .int .i64 (k : Int)] w (Near4 x z k w) := by
  obtain ⟨hX, hY, x1, x2, y1, y2, xy, n9⟩ := S
  have c0 := A.at 0 rfl
  have c1 := A.at 1 rfl
  have hp := A.lt
  rw [hX] at c0
  rw [hY] at c1
  have z9 : z ≤ 144 := by
    have : x * (y - 1) ≤ x * y := Nat.mul_le_mul_left _ (by omega)
    omega
  have hz' : (x : Int) * ((y : Int) - 1) = (z : Int) := by rw [← hz, Int.natCast_mul, Int.ofNat_sub y1]; rfl
  have k9 : k < 144 := by omega
  have N0 : Hid (nr0 x k = bif decide (k < x) then -1 else (k : Int) - (x : Int)) := Lib.hid rfl
  have N1 : Hid (nr1 x k = bif ((k : Int) % (x : Int) == 0) then -1 else (k : Int) - 1) := Lib.hid rfl
  have N2 : Hid (nr2 x k = bif ((k : Int) % (x : Int) == (x : Int) - 1) then -1 else (k : Int) + 1) := Lib.hid rfl
  have N3 : Hid (nr3 x z k = bif decide (z ≤ k) then -1 else (k : Int) + (x : Int)) := Lib.hid rfl
  unfold Near4 nvs
  generalize nr0 x k = m0 at *
  generalize nr1 x k = m1 at *
  generalize nr2 x k = m2 at *
  generalize nr3 x z k = m3 at *
  clear A hX hY hz xy n9 hk
  cases f0 : decide (k < x) <;> cases f1 : ((k : Int) % (x : Int) == 0) <;> cases f2 : ((k : Int) % (x : Int) == (x : Int) - 1) <;> cases f3 : decide (z ≤ k)
  all_goals have g3 := f3
  all_goals first | (have h3 : z ≤ k := of_decide_eq_true g3) | (have h3 : ¬ z ≤ k := of_decide_eq_false g3)
  all_goals first | (have f4 : decide ((z : Int) ≤ (k : Int)) = true := by simp; omega) | (have f4 : decide ((z : Int) ≤ (k : Int)) = false := by simp; omega)
  all_goals clear g3
  all_goals
    rw [f0] at N0
    rw [f1] at N1
    rw [f2] at N2
    rw [f3] at N3
    simp only [cond_false, cond_true] at N0 N1 N2 N3
    obtain rfl := N0.out
    obtain rfl := N1.out
    obtain rfl := N2.out
    obtain rfl := N3.out
    clear N0 N1 N2 N3
    go_enter Try.func89, Try.ntmps89
    go_wp2
    go_region
    go_wp2
    go_region
    go_wp2
    go_region
    go_wp2
    go_ret
    exact ⟨_, rfl, Nat.le_refl _, near_cells _ _ _ _ _ _, near_below _ _⟩
end Go.Proofs.Ythfkmcpajookaaa

/- The neighbours of a cell of a plate: which there are, and what the program hands back. -/
namespace Go.Proofs.Ythfkmcpajookaaa
open Go.RowKit
set_option linter.unusedVariables false

/-- the neighbour at a side, or -1 -/
def nbr (x z k : Nat) (j : Nat) : Int := match j with
  | 0 => nr0 x k
  | 1 => nr1 x k
  | 2 => nr2 x k
  | _ => nr3 x z k
theorem bdec {p : Prop} [Decidable p] {b : Bool} (h : p ↔ b = true) : decide p = b := by cases b <;> simp_all
theorem nb0 {x k : Nat} (hx : 1 ≤ x) : decide ((0 : Int) < (k : Int) / (x : Int)) = decide (0 ≤ nr0 x k) ∧ (0 ≤ nr0 x k → nr0 x k = (k : Int) - (x : Int) ∧ x ≤ k) := by
  unfold nr0
  by_cases h : k < x
  · have e : (k : Int) / (x : Int) = 0 := by rw [← Int.natCast_ediv, Nat.div_eq_of_lt h]; rfl
    simp [h, e]
  · have h1 : 1 ≤ k / x := (Nat.one_le_div_iff (by omega)).2 (by omega)
    have e : (1 : Int) ≤ (k : Int) / (x : Int) := by rw [← Int.natCast_ediv]; exact_mod_cast h1
    have e2 : decide ((0 : Int) < (k : Int) / (x : Int)) = true := by simp; omega
    have e3 : decide (k < x) = false := by simp; omega
    rw [e2, e3]
    simp only [cond_false]
    exact ⟨by simp; omega, fun _ => ⟨by trivial, by omega⟩⟩
theorem nb1 {x k : Nat} (hx : 1 ≤ x) : decide ((0 : Int) < (k : Int) % (x : Int)) = decide (0 ≤ nr1 x k) ∧ (0 ≤ nr1 x k → nr1 x k = (k : Int) - 1 ∧ 1 ≤ k) := by
  unfold nr1
  have hn : (0 : Int) ≤ (k : Int) % (x : Int) := Int.emod_nonneg _ (by omega)
  by_cases h : (k : Int) % (x : Int) = 0
  · simp [h]
  · have e3 : ((k : Int) % (x : Int) == 0) = false := by simpa using h
    have e2 : decide ((0 : Int) < (k : Int) % (x : Int)) = true := by simp; omega
    have hk : 1 ≤ k := by
      rcases Nat.eq_zero_or_pos k with h0 | h0
      · subst h0; simp at h
      · exact h0
    rw [e2, e3]
    simp only [cond_false]
    exact ⟨by simp; omega, fun _ => ⟨by trivial, hk⟩⟩
theorem nb2 {x k y n : Nat} (hx : 1 ≤ x) (hn : x * y = n) (hk : k < n) : decide ((k : Int) % (x : Int) < (x : Int) - 1) = decide (0 ≤ nr2 x k) ∧ (0 ≤ nr2 x k → nr2 x k = (k : Int) + 1 ∧ k + 1 < n) := by
  unfold nr2
  have hl : (k : Int) % (x : Int) < (x : Int) := Int.emod_lt_of_pos _ (by omega)
  by_cases h : (k : Int) % (x : Int) = (x : Int) - 1
  · simp [h]
  · have e3 : ((k : Int) % (x : Int) == (x : Int) - 1) = false := by simpa using h
    have e2 : decide ((k : Int) % (x : Int) < (x : Int) - 1) = true := by simp; omega
    have hm : k % x + 1 < x := by
      have : ((k % x : Nat) : Int) = (k : Int) % (x : Int) := Int.natCast_emod k x
      omega
    have hk1 : k + 1 < n := by
      rcases Nat.lt_or_ge (k + 1) n with h1 | h1
      · exact h1
      · exfalso
        have e : k + 1 = x * y := by omega
        have e1 : (k % x + 1) % x = (k + 1) % x := Nat.mod_add_mod k x 1
        rw [e, Nat.mul_mod_right, Nat.mod_eq_of_lt hm] at e1
        omega
    rw [e2, e3]
    simp only [cond_false]
    exact ⟨by simp; omega, fun _ => ⟨by trivial, hk1⟩⟩
theorem nb3 {x k y n z : Nat} (hx : 1 ≤ x) (hy : 1 ≤ y) (hn : x * y = n) (hz : x * (y - 1) = z) : decide ((k : Int) / (x : Int) < (y : Int) - 1) = decide (0 ≤ nr3 x z k) ∧ (0 ≤ nr3 x z k → nr3 x z k = (k : Int) + (x : Int) ∧ k + x < n) := by
  unfold nr3
  have key : k / x < y - 1 ↔ k < z := by rw [Nat.div_lt_iff_lt_mul (by omega), Nat.mul_comm, hz]
  have hd : ((k / x : Nat) : Int) = (k : Int) / (x : Int) := Int.natCast_ediv k x
  have hs : z + x = n := by
    have := Nat.mul_succ x (y - 1)
    rw [Nat.succ_eq_add_one, Nat.sub_add_cancel hy, hn, hz] at this
    omega
  by_cases h : z ≤ k
  · have e2 : decide ((k : Int) / (x : Int) < (y : Int) - 1) = false := by simp; omega
    have e3 : decide (z ≤ k) = true := by simpa using h
    rw [e2, e3]
    simp
  · have e2 : decide ((k : Int) / (x : Int) < (y : Int) - 1) = true := by simp; omega
    have e3 : decide (z ≤ k) = false := by simpa using h
    rw [e2, e3]
    simp only [cond_false]
    exact ⟨by simp; omega, fun _ => ⟨by trivial, by omega⟩⟩
theorem nbr_nat {x y z n k : Nat} {r : PL} (S : Sd r x y n) (hz : x * (y - 1) = z) (hk : k < n) (j : Nat) (h : 0 ≤ nbr x z k j) : ∃ m : Nat, nbr x z k j = (m : Int) ∧ m < n := by
  obtain ⟨hX, hY, x1, x2, y1, y2, xy, n9⟩ := S
  match j with
  | 0 => obtain ⟨e, h'⟩ := (nb0 (k := k) x1).2 h; exact ⟨k - x, by show nr0 x k = _; rw [e]; omega, by omega⟩
  | 1 => obtain ⟨e, h'⟩ := (nb1 (k := k) x1).2 h; exact ⟨k - 1, by show nr1 x k = _; rw [e]; omega, by omega⟩
  | 2 => obtain ⟨e, h'⟩ := (nb2 (k := k) x1 xy hk).2 h; exact ⟨k + 1, by show nr2 x k = _; rw [e]; omega, h'⟩
  | j + 3 => obtain ⟨e, h'⟩ := (nb3 (k := k) x1 y1 xy hz).2 h; exact ⟨k + x, by show nr3 x z k = _; rw [e]; omega, h'⟩

/-- a neighbour, and whether there is one -/
def Bes (m : Int) (w : World) (e : Ending) (w' : World) : Prop := ∃ v : Int, e = .returned (.tuple #[.int .i64 v, .bool (decide (0 ≤ m))]) ∧ (0 ≤ m → v = m) ∧ Below w.heap.size w w'

set_option maxRecDepth 10000 in
set_option maxHeartbeats 1600000 in
theorem beside0 (x y z n k : Nat) (a b c d : Value) (r : PL) (w : World) (S : Sd r x y n) (hz : x * (y - 1) = z) (hk : k < n) : Calls Try.prog 92 #[.agg #[.int .i64 r.X, .int .i64 r.Y, a, b, c, d], .int .i64 (k : Int), .int .i64 0] w (Bes (nbr x z k 0) w) := by
  obtain ⟨hX, hY, x1, x2, y1, y2, xy, n9⟩ := S
  show Calls Try.prog 92 _ w (Bes (nr0 x k) w)
  obtain ⟨f, g⟩ := nb0 (k := k) x1
  have G := Lib.hid (fun h => (g h).1.symm)
  have k9 : k < 144 := by omega
  rw [hX, hY]
  unfold Bes
  generalize nr0 x k = m at *
  generalize decide (0 ≤ m) = ok at *
  have q1 : (0 : Int) ≤ (k : Int) / (x : Int) := Int.ediv_nonneg (by omega) (by omega)
  have q2 : (k : Int) / (x : Int) ≤ (k : Int) := Int.ediv_le_self _ (by omega)
  clear g hz xy hX hY hk n9
  go_enter Try.func92, Try.ntmps92
  go_wp2
  go_region
  go_wp2
  skip
  go_ret2
  exact ⟨_, rfl, G.out, below_drewN (below_al1 _ _) 1⟩
set_option maxRecDepth 10000 in
set_option maxHeartbeats 1600000 in
theorem beside1 (x y z n k : Nat) (a b c d : Value) (r : PL) (w : World) (S : Sd r x y n) (hz : x * (y - 1) = z) (hk : k < n) : Calls Try.prog 92 #[.agg #[.int .i64 r.X, .int .i64 r.Y, a, b, c, d], .int .i64 (k : Int), .int .i64 1] w (Bes (nbr x z k 1) w) := by
  obtain ⟨hX, hY, x1, x2, y1, y2, xy, n9⟩ := S
  show Calls Try.prog 92 _ w (Bes (nr1 x k) w)
  obtain ⟨f, g⟩ := nb1 (k := k) x1
  have G := Lib.hid (fun h => (g h).1.symm)
  have k9 : k < 144 := by omega
  rw [hX, hY]
  unfold Bes
  generalize nr1 x k = m at *
  generalize decide (0 ≤ m) = ok at *
  have q1 : (0 : Int) ≤ (k : Int) / (x : Int) := Int.ediv_nonneg (by omega) (by omega)
  have q2 : (k : Int) / (x : Int) ≤ (k : Int) := Int.ediv_le_self _ (by omega)
  clear g hz xy hX hY hk n9
  go_enter Try.func92, Try.ntmps92
  go_wp2
  go_region
  go_wp2
  skip
  go_ret2
  exact ⟨_, rfl, G.out, below_drewN (below_al1 _ _) 1⟩
set_option maxRecDepth 10000 in
set_option maxHeartbeats 1600000 in
theorem beside2 (x y z n k : Nat) (a b c d : Value) (r : PL) (w : World) (S : Sd r x y n) (hz : x * (y - 1) = z) (hk : k < n) : Calls Try.prog 92 #[.agg #[.int .i64 r.X, .int .i64 r.Y, a, b, c, d], .int .i64 (k : Int), .int .i64 2] w (Bes (nbr x z k 2) w) := by
  obtain ⟨hX, hY, x1, x2, y1, y2, xy, n9⟩ := S
  show Calls Try.prog 92 _ w (Bes (nr2 x k) w)
  obtain ⟨f, g⟩ := nb2 (k := k) x1 xy hk
  have G := Lib.hid (fun h => (g h).1.symm)
  have k9 : k < 144 := by omega
  rw [hX, hY]
  unfold Bes
  generalize nr2 x k = m at *
  generalize decide (0 ≤ m) = ok at *
  have q1 : (0 : Int) ≤ (k : Int) / (x : Int) := Int.ediv_nonneg (by omega) (by omega)
  have q2 : (k : Int) / (x : Int) ≤ (k : Int) := Int.ediv_le_self _ (by omega)
  clear g hz xy hX hY hk n9
  go_enter Try.func92, Try.ntmps92
  go_wp2
  go_region
  go_wp2
  go_region
  go_wp2
  go_ret2
  exact ⟨_, rfl, G.out, below_drewN (below_al1 _ _) 2⟩
set_option maxRecDepth 10000 in
set_option maxHeartbeats 1600000 in
theorem beside3 (x y z n k : Nat) (a b c d : Value) (r : PL) (w : World) (S : Sd r x y n) (hz : x * (y - 1) = z) (hk : k < n) : Calls Try.prog 92 #[.agg #[.int .i64 r.X, .int .i64 r.Y, a, b, c, d], .int .i64 (k : Int), .int .i64 3] w (Bes (nbr x z k 3) w) := by
  obtain ⟨hX, hY, x1, x2, y1, y2, xy, n9⟩ := S
  show Calls Try.prog 92 _ w (Bes (nr3 x z k) w)
  obtain ⟨f, g⟩ := nb3 (k := k) x1 y1 xy hz
  have G := Lib.hid (fun h => (g h).1.symm)
  have k9 : k < 144 := by omega
  rw [hX, hY]
  unfold Bes
  generalize nr3 x z k = m at *
  generalize decide (0 ≤ m) = ok at *
  have q1 : (0 : Int) ≤ (k : Int) / (x : Int) := Int.ediv_nonneg (by omega) (by omega)
  have q2 : (k : Int) / (x : Int) ≤ (k : Int) := Int.ediv_le_self _ (by omega)
  clear g hz xy hX hY hk n9
  go_enter Try.func92, Try.ntmps92
  go_wp2
  go_region
  go_wp2
  go_region
  go_wp2
  go_ret2
  exact ⟨_, rfl, G.out, below_drewN (below_al1 _ _) 2⟩
theorem beside_any (x y z n k j : Nat) (hj : j < 4) (a b c d : Value) (r : PL) (w : World) (S : Sd r x y n) (hz : x * (y - 1) = z) (hk : k < n) : Calls Try.prog 92 #[.agg #[.int .i64 r.X, .int .i64 r.Y, a, b, c, d], .int .i64 (k : Int), .int .i64 (j : Int)] w (Bes (nbr x z k j) w) := by
  match j, hj with
  | 0, _ => exact beside0 x y z n k a b c d r w S hz hk
  | 1, _ => exact beside1 x y z n k a b c d r w S hz hk
  | 2, _ => exact beside2 x y z n k a b c d r w S hz hk
  | 3, _ => exact beside3 x y z n k a b c d r w S hz hk
end Go.Proofs.Ythfkmcpajookaaa

/- How great a number may be: bounds by powers of two, kept through operations; what is small enough is narrowed to a finite number. -/
namespace Go.Proofs.Ythfkmcpajookaaa

theorem even_cut_le (neg : Bool) (n d : Nat) : Ieee.Toward.even.cut neg n d ≤ n / 2 ^ min d (n.log2 + 2) + 1 := by
  unfold Ieee.Toward.cut
  simp only [Nat.one_shiftLeft]
  have : ∀ b : Bool, b.toNat ≤ 1 := fun b => by cases b <;> decide
  exact Nat.add_le_add_left (this _) _

theorem div_pow_lt (m d : Nat) (hd : d ≤ m.log2 + 1) : m / 2 ^ d < 2 ^ (m.log2 + 1 - d) := by
  rw [Nat.div_lt_iff_lt_mul (Nat.two_pow_pos _), ← Nat.pow_add, show m.log2 + 1 - d + d = m.log2 + 1 by omega]
  exact Nat.lt_log2_self

theorem kept_le (fb : Nat) (neg : Bool) (m : Nat) (e last : Int) (hl : e + (m.log2 : Int) - fb ≤ last) :
    Ieee.Toward.even.cut neg (m <<< (e - last).toNat) (last - e).toNat ≤ 2 ^ (fb + 1) := by
  by_cases h : last ≤ e
  · have h0 : (last - e).toNat = 0 := by omega
    rw [h0, cut_zero, Nat.shiftLeft_eq]
    have h1 : m < 2 ^ (m.log2 + 1) := Nat.lt_log2_self
    have h2 : m * 2 ^ (e - last).toNat < 2 ^ (m.log2 + 1) * 2 ^ (e - last).toNat := Nat.mul_lt_mul_of_pos_right h1 (Nat.two_pow_pos _)
    rw [← Nat.pow_add] at h2
    exact Nat.le_trans (Nat.le_of_lt h2) (Nat.pow_le_pow_right (by decide) (by omega))
  · have h0 : (e - last).toNat = 0 := by omega
    rw [h0, Nat.shiftLeft_zero]
    refine Nat.le_trans (even_cut_le neg m _) ?_
    have hp : 1 ≤ 2 ^ (fb + 1) := Nat.one_le_two_pow
    by_cases hd : (last - e).toNat ≤ m.log2 + 1
    · rw [Nat.min_eq_left (by omega)]
      have h1 := div_pow_lt m _ hd
      have h2 : 2 ^ (m.log2 + 1 - (last - e).toNat) ≤ 2 ^ (fb + 1) := Nat.pow_le_pow_right (by decide) (by omega)
      omega
    · rw [Nat.min_eq_right (by omega)]
      have h1 : m < 2 ^ (m.log2 + 1) := Nat.lt_log2_self
      have h2 : 2 ^ (m.log2 + 1) ≤ 2 ^ (m.log2 + 2) := Nat.pow_le_pow_right (by decide) (by omega)
      rw [Nat.div_eq_of_lt (by omega)]
      omega

theorem nearest_rung (f : Ieee.Format) (neg : Bool) (m : Nat) (e : Int) (hm : m ≠ 0) :
    ∃ r, f.nearest neg m e = f.word neg (min r f.infRung) ∧ r ≤ (max (e + (m.log2 : Int) - f.fractionBits) f.leastPlace - f.leastPlace).toNat * f.binade + 2 * f.binade := by
  unfold Ieee.Format.nearest
  rw [if_neg hm]
  refine ⟨_, rfl, Nat.add_le_add_left ?_ _⟩
  have := kept_le f.fractionBits neg m e (max (e + (m.log2 : Int) - f.fractionBits) f.leastPlace) (by omega)
  rw [show 2 * f.binade = 2 ^ (f.fractionBits + 1) from by unfold Ieee.Format.binade; rw [Nat.pow_succ, Nat.mul_comm]]
  exact this

/-- less than 2 to the power of K -/
def Lt (K : Int) (m : Nat) (e : Int) : Prop := m = 0 ∨ (m.log2 : Int) + e < K
def Bd (K : Int) (b : Nat) : Prop := ∃ s m e, Ieee.double.read b = .number s m e ∧ Lt K m e

theorem word_mod (f : Ieee.Format) (neg : Bool) (r : Nat) (h : r < f.signWeight) : f.word neg r % f.signWeight = r := by
  unfold Ieee.Format.word
  split
  · rw [Nat.add_mod_left, Nat.mod_eq_of_lt h]
  · exact Nat.mod_eq_of_lt h

theorem Bd.mono {K L : Int} {b : Nat} (h : Bd K b) (hl : K ≤ L) : Bd L b := by
  obtain ⟨s, m, e, hr, hm⟩ := h
  refine ⟨s, m, e, hr, ?_⟩
  rcases hm with hm | hm
  · exact .inl hm
  · exact .inr (by omega)

theorem rung_num (T r : Nat) (h : r ≤ T * 4503599627370496 + 2 * 4503599627370496) (hT : T ≤ 2040) : r < 9218868437227405312 ∧ r / 4503599627370496 ≤ T + 2 := by
  constructor
  · omega
  · omega

theorem double_mg (r : Nat) : mg Ieee.double r < 9007199254740992 := by
  unfold mg
  rw [double_binade]
  split <;> omega

theorem nearest_Bd (K : Int) (s : Bool) (m : Nat) (e : Int) (h : Lt K m e) (h0 : -1000 ≤ K) (h1 : K ≤ 1000) : Bd (K + 1) (Ieee.double.nearest s m e) := by
  by_cases hm : m = 0
  · subst hm
    refine ⟨s, 0, Ieee.double.leastPlace, ?_, .inl rfl⟩
    unfold Ieee.Format.nearest
    rw [if_pos rfl]
    cases s <;> rfl
  · obtain ⟨r, hr, hle⟩ := nearest_rung Ieee.double s m e hm
    have hlt : (m.log2 : Int) + e < K := by rcases h with h | h; exact absurd h hm; exact h
    rw [double_binade, double_least, double_fraction] at hle
    have hT : (max (e + (m.log2 : Int) - 52) (-1074) - -1074).toNat ≤ 2040 := by omega
    have hTK : ((max (e + (m.log2 : Int) - 52) (-1074) - -1074).toNat : Int) - 1074 ≤ max (K - 53) (-1074) := by omega
    generalize (max (e + (m.log2 : Int) - 52) (-1074) - -1074).toNat = T at *
    obtain ⟨g1, g2⟩ := rung_num T r hle hT
    rw [double_inf, Nat.min_eq_left (by omega)] at hr
    have hsw : Ieee.double.signWeight = 9223372036854775808 := double_sw
    have hmod : (Ieee.double.word s r) % Ieee.double.signWeight = r := word_mod _ _ _ (by rw [hsw]; omega)
    have hread := read_fin Ieee.double (Ieee.double.word s r) (by rw [hmod, double_inf]; exact g1)
    rw [hmod] at hread
    rw [hr]
    refine ⟨_, _, _, hread, ?_⟩
    by_cases hz : mg Ieee.double r = 0
    · exact .inl hz
    · refine .inr ?_
      have hl : (mg Ieee.double r).log2 < 53 := (Nat.log2_lt hz).2 (double_mg r)
      have hex : ex Ieee.double r = r / 4503599627370496 - 1 := by unfold ex; rw [double_binade]
      rw [double_least, hex]
      generalize r / 4503599627370496 = q at *
      generalize (mg Ieee.double r).log2 = l at *
      omega

theorem single_binade : Ieee.single.binade = 8388608 := by decide
theorem single_inf' : Ieee.single.infRung = 2139095040 := by decide
theorem single_least : Ieee.single.leastPlace = -149 := by decide
theorem single_fraction : (Ieee.single.fractionBits : Int) = 23 := by decide

theorem single_small (s : Bool) (m : Nat) (e : Int) (h : Lt 127 m e) : (Ieee.single.read (Ieee.single.write (.number s m e))).isInfinity = false := by
  show (Ieee.single.read (Ieee.single.nearest s m e)).isInfinity = false
  by_cases hm : m = 0
  · subst hm
    exact read_word_fin Ieee.single s 0 (by decide)
  · obtain ⟨r, hr, hle⟩ := nearest_rung Ieee.single s m e hm
    have hlt : (m.log2 : Int) + e < 127 := by rcases h with h | h; exact absurd h hm; exact h
    rw [single_binade, single_least, single_fraction] at hle
    have hT : (max (e + (m.log2 : Int) - 23) (-149) - -149).toNat ≤ 252 := by omega
    generalize (max (e + (m.log2 : Int) - 23) (-149) - -149).toNat = T at *
    rw [hr, single_inf']
    exact read_word_fin _ _ _ (by rw [single_inf']; omega)

/-- what is small enough is not too great to be narrowed -/
theorem ovf_small {b : Nat} (h : Bd 127 b) : ovf b = false := by
  obtain ⟨s, m, e, hr, hm⟩ := h
  unfold ovf floatToFloatBits
  rw [if_neg (by decide)]
  rw [show FloatKind.f64.decode b = .number s m e from hr]
  simp only
  rw [if_neg (by rw [show FloatKind.f32.decode (FloatKind.f32.encode (.number s m e)) = Ieee.single.read (Ieee.single.write (.number s m e)) from rfl, single_small s m e hm]; simp)]
  simp

theorem ovf_nan {b : Nat} (h : nn .f64 b = true) : ovf b = false := by simp [ovf, h]

theorem up_Bd {a r : Nat} (h : UR a r) (hf : fin .f32 a = true) : Bd 129 r := by
  obtain ⟨s, m, e, hr⟩ := fin_number hf
  have hn : nn .f32 a = false := by
    cases hn : nn .f32 a
    · rfl
    · rw [fin_nan hn] at hf; cases hf
  obtain ⟨hm, h0, h1⟩ := read_single_bounds (show Ieee.single.read a = _ from hr)
  obtain ⟨u, hu⟩ := up_some hn
  have e1 := h.1
  rw [cn_of_num (by rw [nn_up h]; exact hn), cn_of_num hn, cvu, hu] at e1
  change r = u at e1
  subst e1
  unfold floatToFloatBits at hu
  rw [if_neg (by decide), show FloatKind.f32.decode a = .number s m e from hr] at hu
  simp only at hu
  split at hu
  · cases hu
  · cases hu
    refine nearest_Bd 128 s m e ?_ (by omega) (by omega)
    by_cases hz : m = 0
    · exact .inl hz
    · have := (Nat.log2_lt hz).2 hm
      exact .inr (by omega)

/-! Roots. -/
theorem log2_mul_pow (m k : Nat) (h : m ≠ 0) : (m * 2 ^ k).log2 = m.log2 + k := by
  rw [Nat.log2_eq_iff (Nat.mul_ne_zero h (Nat.ne_of_gt (Nat.two_pow_pos _)))]
  have a := Nat.log2_self_le h
  have b := @Nat.lt_log2_self m
  constructor
  · rw [Nat.pow_add]; exact Nat.mul_le_mul_right _ a
  · rw [show m.log2 + k + 1 = m.log2 + 1 + k by omega, Nat.pow_add]; exact Nat.mul_lt_mul_of_pos_right b (Nat.two_pow_pos _)

theorem rootFrom_lt (n : Nat) : ∀ (todo root : Nat), Ieee.Datum.rootFrom n todo root < root + 2 ^ todo
  | 0, root => by simp [Ieee.Datum.rootFrom]
  | todo + 1, root => by
    unfold Ieee.Datum.rootFrom
    have h1 := rootFrom_lt n todo (root + 1 <<< todo)
    have h2 := rootFrom_lt n todo root
    rw [Nat.one_shiftLeft] at h1
    have hp : 2 ^ (todo + 1) = 2 ^ todo + 2 ^ todo := by rw [Nat.pow_succ]; omega
    have hq := Nat.two_pow_pos todo
    simp only [Nat.one_shiftLeft]
    split <;> omega

/-- a root, up to the bits of a not-a-number -/
def fsq (x : Nat) : Nat := (Ieee.double.sqrt x).getD (qn .f64)

theorem sqrt_Bd {x r : Nat} (h : Bd 129 x) (hr : Ieee.double.sqrt x = some r) : Bd 127 r := by
  obtain ⟨s, m, i, hx, hm⟩ := h
  unfold Ieee.Format.sqrt at hr
  rw [hx] at hr
  simp only [Ieee.Datum.root] at hr
  by_cases h0 : m = 0
  · rw [if_pos h0] at hr
    simp only [Option.map_some, Option.some.injEq] at hr
    subst hr
    exact (nearest_Bd 0 s m i (.inl h0) (by omega) (by omega)).mono (by omega)
  · rw [if_neg h0] at hr
    cases s
    · simp only [Bool.false_eq_true, if_false, Option.map_some, Option.some.injEq] at hr
      subst hr
      have hlt : (m.log2 : Int) + i < 129 := by rcases hm with h | h; exact absurd h h0; exact h
      generalize hmo : (2 * (Ieee.double.fractionBits + 2) - m.log2 + ((i - ((2 * (Ieee.double.fractionBits + 2) - m.log2 : Nat) : Int)) % 2).toNat) = more
      have hln : (m <<< more).log2 = m.log2 + more := by rw [Nat.shiftLeft_eq, log2_mul_pow m more h0]
      have hw := rootFrom_lt (m <<< more) ((m <<< more).log2 / 2 + 1) 0
      rw [hln] at hw ⊢
      generalize Ieee.Datum.rootFrom (m <<< more) ((m.log2 + more) / 2 + 1) 0 = whole at *
      refine (nearest_Bd 100 false _ _ ?_ (by omega) (by omega)).mono (by omega)
      by_cases hz : 2 * whole + (whole * whole != m <<< more).toNat = 0
      · exact .inl hz
      · refine .inr ?_
        have hb : (whole * whole != m <<< more).toNat ≤ 1 := by cases (whole * whole != m <<< more) <;> decide
        have hl : (2 * whole + (whole * whole != m <<< more).toNat).log2 < (m.log2 + more) / 2 + 3 := by
          refine (Nat.log2_lt hz).2 ?_
          have : 2 ^ ((m.log2 + more) / 2 + 3) = 2 ^ ((m.log2 + more) / 2 + 1) * 4 := by rw [show (m.log2 + more) / 2 + 3 = (m.log2 + more) / 2 + 1 + 2 by omega, Nat.pow_add]
          omega
        generalize (2 * whole + (whole * whole != m <<< more).toNat).log2 = l at *
        omega
    · simp at hr
end Go.Proofs.Ythfkmcpajookaaa

/- Halves of 32-bit numbers: what is divided by 2 is what is multiplied by one half. -/
namespace Go.Proofs.Ythfkmcpajookaaa
open Go

theorem cut_scale (neg : Bool) (n k d : Nat) (hn : n ≠ 0) : Ieee.Toward.even.cut neg (n * 2 ^ k) (d + k) = Ieee.Toward.even.cut neg n d := by
  unfold Ieee.Toward.cut
  have hl : (n * 2 ^ k).log2 = n.log2 + k := log2_mul_pow n k hn
  have hg : 1 <<< min (d + k) ((n * 2 ^ k).log2 + 2) = (1 <<< min d (n.log2 + 2)) * 2 ^ k := by
    rw [hl, Nat.one_shiftLeft, Nat.one_shiftLeft, show min (d + k) (n.log2 + k + 2) = min d (n.log2 + 2) + k by omega, Nat.pow_add]
  simp only [hg]
  generalize (1 <<< min d (n.log2 + 2)) = g
  have hk : 0 < 2 ^ k := Nat.two_pow_pos k
  generalize 2 ^ k = K at *
  rw [Nat.mul_div_mul_right _ _ hk, Nat.mul_mod_mul_right]
  have e1 : (2 * (n % g * K)) = (2 * (n % g)) * K := by rw [Nat.mul_assoc]
  rw [e1]
  have e2 : decide (g * K < 2 * (n % g) * K) = decide (g < 2 * (n % g)) := by
    rw [decide_eq_decide]
    exact Nat.mul_lt_mul_right hk
  have e3 : (g * K == 2 * (n % g) * K) = (g == 2 * (n % g)) := by
    rw [Bool.eq_iff_iff]
    simp only [beq_iff_eq]
    exact ⟨fun h => Nat.eq_of_mul_eq_mul_right hk h, fun h => congrArg (· * K) h⟩
  rw [e2, e3]

theorem nearest_scale (f : Ieee.Format) (neg : Bool) (m k : Nat) (p : Int) (hm : m ≠ 0) : f.nearest neg (m * 2 ^ k) (p - k) = f.nearest neg m p := by
  unfold Ieee.Format.nearest
  have h0 : m * 2 ^ k ≠ 0 := Nat.mul_ne_zero hm (Nat.ne_of_gt (Nat.two_pow_pos k))
  rw [if_neg h0, if_neg hm]
  simp only [log2_mul_pow m k hm]
  have hL : max (p - k + ((m.log2 + k : Nat) : Int) - f.fractionBits) f.leastPlace = max (p + (m.log2 : Int) - f.fractionBits) f.leastPlace := by
    congr 1; omega
  rw [hL]
  generalize max (p + (m.log2 : Int) - f.fractionBits) f.leastPlace = L
  have hc : Ieee.Toward.even.cut neg ((m * 2 ^ k) <<< (p - k - L).toNat) (L - (p - k)).toNat = Ieee.Toward.even.cut neg (m <<< (p - L).toNat) (L - p).toNat := by
    rw [Nat.shiftLeft_eq, Nat.shiftLeft_eq]
    by_cases h1 : L ≤ p - k
    · have e1 : (p - L).toNat = k + (p - k - L).toNat := by omega
      have e2 : (L - (p - k)).toNat = 0 := by omega
      have e3 : (L - p).toNat = 0 := by omega
      rw [e1, e2, e3, Nat.pow_add, Nat.mul_assoc]
    · by_cases h2 : L ≤ p
      · have e1 : (p - k - L).toNat = 0 := by omega
        have e3 : (L - p).toNat = 0 := by omega
        have e4 : 2 ^ k = 2 ^ (p - L).toNat * 2 ^ (L - (p - k)).toNat := by
          rw [← Nat.pow_add]; congr 1; omega
        rw [e1, e3, Nat.pow_zero, Nat.mul_one, e4, ← Nat.mul_assoc]
        have := cut_scale neg (m * 2 ^ (p - L).toNat) (L - (p - k)).toNat 0 (Nat.mul_ne_zero hm (Nat.ne_of_gt (Nat.two_pow_pos _)))
        rw [Nat.zero_add] at this
        exact this
      · have e1 : (p - k - L).toNat = 0 := by omega
        have e2 : (p - L).toNat = 0 := by omega
        have e3 : (L - (p - k)).toNat = (L - p).toNat + k := by omega
        rw [e1, e2, e3, Nat.pow_zero, Nat.mul_one, Nat.mul_one]
        exact cut_scale neg m k _ hm
  rw [hc]

theorem two32_read : Ieee.single.read 1073741824 = .number false 8388608 (-22) := by decide +kernel
theorem half32_read : Ieee.single.read 1056964608 = .number false 8388608 (-24) := by decide +kernel

theorem half_same (x : Nat) : floatBits .quo .f32 x 1073741824 = floatBits .mul .f32 1056964608 x := by
  show Ieee.single.div x 1073741824 = Ieee.single.mul 1056964608 x
  unfold Ieee.Format.div Ieee.Format.mul
  rw [two32_read, half32_read]
  cases h : Ieee.single.read x with
  | nan s t => rfl
  | infinity s => cases s <;> rfl
  | number s m e =>
    obtain ⟨hm, _, _⟩ := read_single_bounds h
    simp only [Ieee.Datum.quotient, Ieee.Datum.product]
    rw [if_neg (by decide)]
    simp only [Option.map_some, Option.some.injEq]
    show Ieee.single.nearest _ _ _ = Ieee.single.nearest _ _ _
    by_cases h0 : m = 0
    · subst h0
      rw [Nat.zero_shiftLeft, Nat.zero_div, Nat.zero_mod, Nat.mul_zero]
      unfold Ieee.Format.nearest
      simp
    · have hl : m.log2 < 24 := (Nat.log2_lt h0).2 hm
      have h23 : Nat.log2 8388608 = 23 := by decide +kernel
      have hf : Ieee.single.fractionBits = 23 := by decide
      rw [h23, hf]
      have e1 : 2 * (m <<< (23 + 2 + 23 - m.log2) / 8388608) + (m <<< (23 + 2 + 23 - m.log2) % 8388608 != 0).toNat = m * 2 ^ (26 - m.log2) := by
        rw [Nat.shiftLeft_eq, show 23 + 2 + 23 - m.log2 = (25 - m.log2) + 23 by omega, Nat.pow_add, ← Nat.mul_assoc, show (8388608 : Nat) = 2 ^ 23 from rfl]
        rw [Nat.mul_div_cancel _ (Nat.two_pow_pos 23), Nat.mul_mod_left, show 26 - m.log2 = (25 - m.log2) + 1 by omega, Nat.pow_succ]
        simp
        rw [Nat.mul_comm 2, Nat.mul_assoc]
      rw [e1]
      have e2 : e - -22 - ((23 + 2 + 23 - m.log2 : Nat) : Int) - 1 = (e - 1) - ((26 - m.log2 : Nat) : Int) := by omega
      have e3 : (8388608 : Nat) * m = m * 2 ^ 23 := by rw [Nat.mul_comm]
      have e4 : (-24 : Int) + e = (e - 1) - ((23 : Nat) : Int) := by omega
      rw [e2, e3, e4, nearest_scale _ _ _ _ _ h0, nearest_scale _ _ _ _ _ h0]
      simp

/-- a half, told as the program tells it, and as the specification does -/
theorem fop_half (x : Nat) : fop .quo .f32 x (cn .f32 1073741824) = fop .mul .f32 (cn .f32 1056964608) x := by
  have e1 : cn .f32 1073741824 = 1073741824 := by decide
  have e2 : cn .f32 1056964608 = 1056964608 := by decide
  unfold fop
  rw [e1, e2, half_same]
end Go.Proofs.Ythfkmcpajookaaa

/- Numbers of 32 bits as integers in order. -/
namespace Go.Proofs.Ythfkmcpajookaaa
open Go Go.RowKit
set_option linter.unusedVariables false

theorem s_bin : Ieee.single.binade = 8388608 := by decide
theorem s_inf : Ieee.single.infRung = 2139095040 := by decide
theorem s_sw : Ieee.single.signWeight = 2147483648 := by decide
theorem s_lp : Ieee.single.leastPlace = -149 := by decide
theorem s_word (neg : Bool) (r : Nat) : Ieee.single.word neg r = if neg then 2147483648 + r else r := by unfold Ieee.Format.word; rw [s_sw]
theorem s_key (x : Nat) : key FloatKind.f32.format x = if x / 2147483648 % 2 == 1 then -((x % 2147483648 : Nat) : Int) else ((x % 2147483648 : Nat) : Int) := by
  show key Ieee.single x = _
  unfold key; rw [s_sw]
theorem ordk {x y : Nat} (hx : nn .f32 x = false) (hy : nn .f32 y = false) : FloatKind.f32.format.order x y = some (compare (key FloatKind.f32.format x) (key FloatKind.f32.format y)) := by
  rw [ord_key, hx, hy]; rfl
theorem nn_small {x : Nat} (h : x % 2147483648 ≤ 2139095040) : nn .f32 x = false := (nn_iff .f32 x).2 (by unfold notNan; show x % Ieee.single.signWeight ≤ Ieee.single.infRung; rw [s_sw, s_inf]; exact h)
theorem nn_big {x : Nat} (h : nn .f32 x = false) : x % 2147483648 ≤ 2139095040 := by
  have := (nn_iff .f32 x).1 h
  unfold notNan at this
  have e : x % Ieee.single.signWeight ≤ Ieee.single.infRung := this
  rw [s_sw, s_inf] at e
  exact e
theorem dneg {x : Nat} (h : x < 2147483648) (hi : x ≤ 2139095040) : (FloatKind.f32.decode x).neg = false := by
  have e : x % 2147483648 = x := Nat.mod_eq_of_lt h
  have e0 : x / 2147483648 = 0 := Nat.div_eq_of_lt h
  show (Ieee.single.read x).neg = false
  by_cases h1 : x < 2139095040
  · rw [read_fin Ieee.single x (by rw [s_sw, s_inf, e]; exact h1), s_sw, e0]; rfl
  · rw [read_inf Ieee.single x (by rw [s_sw, s_inf, e]; omega) (by decide), s_sw, e0]; rfl
theorem kpos {x : Nat} (h : x < 2147483648) : key FloatKind.f32.format x = (x : Int) := by
  rw [s_key, Nat.div_eq_of_lt h, Nat.mod_eq_of_lt h]; rfl
theorem kneg {x : Nat} (h : 2147483648 ≤ x) (h2 : x < 4294967296) : key FloatKind.f32.format x = -((x - 2147483648 : Nat) : Int) := by
  have e1 : x / 2147483648 = 1 := by omega
  have e2 : x % 2147483648 = x - 2147483648 := by omega
  rw [s_key, e1, e2, if_pos (by decide)]
theorem icmp_lt {a b : Int} (h : a < b) : compare a b = .lt := by simp only [compare, compareOfLessAndEq]; rw [if_pos h]
theorem icmp_gt {a b : Int} (h : b < a) : compare a b = .gt := by simp only [compare, compareOfLessAndEq]; rw [if_neg (by omega), if_neg (by omega)]
theorem icmp_eq {a b : Int} (h : a = b) : compare a b = .eq := by simp only [compare, compareOfLessAndEq]; rw [if_neg (by omega), if_pos h]
theorem neg_bits {q : Nat} (h : q < 4294967296) : Op.negFloat .f32 q = if q < 2147483648 then q + 2147483648 else q - 2147483648 := by
  have e : Op.negFloat .f32 q % 2147483648 = q % 2147483648 := by
    show (q ^^^ 2 ^ 31) % 2 ^ 31 = q % 2 ^ 31
    rw [Nat.xor_mod_two_pow, Nat.mod_self, Nat.xor_zero]
  have e2 : Op.negFloat .f32 q / 2147483648 = (q / 2147483648) ^^^ 1 := by
    show (q ^^^ 2 ^ 31) / 2 ^ 31 = (q / 2 ^ 31) ^^^ 1
    rw [Nat.xor_div_two_pow]
  have h1 := Nat.div_add_mod (Op.negFloat .f32 q) 2147483648
  have h2 := Nat.div_add_mod q 2147483648
  by_cases hq : q < 2147483648
  · have e3 : q / 2147483648 = 0 := Nat.div_eq_of_lt hq
    rw [e3] at e2
    have e4 : (0 : Nat) ^^^ 1 = 1 := rfl
    rw [e4] at e2
    rw [if_pos hq]; omega
  · have e3 : q / 2147483648 = 1 := by omega
    rw [e3] at e2
    have e4 : (1 : Nat) ^^^ 1 = 0 := rfl
    rw [e4] at e2
    rw [if_neg hq]; omega
end Go.Proofs.Ythfkmcpajookaaa

/- Adding zero changes nothing; a sum that begins with +0 is never -0; what is not finite stays so in products. -/
namespace Go.Proofs.Ythfkmcpajookaaa
open Go.RowKit
set_option linter.unusedVariables false

theorem word_back {x : Nat} (h : x < 4294967296) : Ieee.single.word (x / 2147483648 % 2 == 1) (x % 2147483648) = x := by
  rw [s_word]
  by_cases h1 : x < 2147483648
  · have e : x / 2147483648 = 0 := Nat.div_eq_of_lt h1
    rw [e]; simp; omega
  · have e : x / 2147483648 = 1 := by omega
    rw [e]; simp; omega

theorem log2_mg {R : Nat} (h : 8388608 ≤ R) : (8388608 + R % 8388608).log2 = 23 := by
  have h1 : R % 8388608 < 8388608 := Nat.mod_lt _ (by decide)
  have hz : 8388608 + R % 8388608 ≠ 0 := by omega
  have a := (Nat.le_log2 hz (k := 23)).2 (by omega)
  have b := (Nat.log2_lt hz (k := 24)).2 (by omega)
  omega

/-- a word is the nearest one of its own number -/
theorem near_self {x : Nat} (h : x < 4294967296) (hr : x % 2147483648 < 2139095040) (h0 : x % 2147483648 ≠ 0) :
    Ieee.single.nearest (x / 2147483648 % 2 == 1) (mg Ieee.single (x % 2147483648)) (-149 + (ex Ieee.single (x % 2147483648) : Nat)) = x := by
  have hx := word_back h
  generalize (x / 2147483648 % 2 == 1) = s at *
  generalize x % 2147483648 = R at *
  rw [← hx]
  unfold Ieee.Format.nearest mg ex
  rw [s_bin, s_inf, s_lp]
  by_cases h1 : R < 8388608
  · have hl : R.log2 < 23 := (Nat.log2_lt h0).2 (by omega)
    rw [if_pos h1, if_neg h0, Nat.div_eq_of_lt h1]
    have e1 : max ((-149 : Int) + ((0 - 1 : Nat) : Int) + (R.log2 : Int) - (Ieee.single.fractionBits : Int)) (-149) = -149 := by
      have : Ieee.single.fractionBits = 23 := rfl
      rw [this]; simp; omega
    simp only [e1]
    simp [cut_zero]
    congr 1
    omega
  · have hl := log2_mg (R := R) (by omega)
    rw [if_neg h1]
    have hz : 8388608 + R % 8388608 ≠ 0 := by omega
    rw [if_neg hz, hl]
    have q : 1 ≤ R / 8388608 := by omega
    have e1 : max ((-149 : Int) + ((R / 8388608 - 1 : Nat) : Int) + ((23 : Nat) : Int) - (Ieee.single.fractionBits : Int)) (-149) = -149 + ((R / 8388608 - 1 : Nat) : Int) := by
      have : Ieee.single.fractionBits = 23 := rfl
      rw [this]; omega
    simp only [e1]
    have e2 : ((-149 : Int) + ((R / 8388608 - 1 : Nat) : Int) - (-149 + ((R / 8388608 - 1 : Nat) : Int))).toNat = 0 := by omega
    have e3 : ((-149 : Int) + ((R / 8388608 - 1 : Nat) : Int) - -149).toNat = R / 8388608 - 1 := by omega
    rw [e2, e3, Nat.shiftLeft_zero, cut_zero]
    congr 1
    omega

theorem read_zero : Ieee.single.read 0 = .number false 0 (-149) := by decide +kernel
theorem f32_add (x y : Nat) : floatBits .add .f32 x y = ((Ieee.single.read x).sum (Ieee.single.read y)).map Ieee.single.write := rfl

theorem add_zero {x : Nat} (h : x < 4294967296) (hz : x ≠ 2147483648) (hn : nn .f32 x = false) : fop .add .f32 x 0 = x := by
  have hnn : notNan Ieee.single x := (nn_iff .f32 x).1 hn
  unfold notNan at hnn
  rw [s_sw, s_inf] at hnn
  unfold fop
  rw [f32_add, read_zero]
  by_cases hi : x % 2147483648 = 2139095040
  · rw [read_inf Ieee.single x (by rw [s_sw, s_inf]; exact hi) (by decide), s_sw]
    show Ieee.single.word (x / 2147483648 % 2 == 1) Ieee.single.infRung = x
    rw [s_inf, ← hi]
    exact word_back h
  · have hr : x % 2147483648 < 2139095040 := by omega
    rw [read_fin Ieee.single x (by rw [s_sw, s_inf]; exact hr), s_sw, s_lp]
    by_cases h0 : x % 2147483648 = 0
    · have : x = 0 := by omega
      subst this
      decide +kernel
    · have hs := near_self h hr h0
      have hm : mg Ieee.single (x % 2147483648) ≠ 0 := by
        unfold mg; rw [s_bin]; split <;> omega
      generalize mg Ieee.single (x % 2147483648) = m at *
      generalize ex Ieee.single (x % 2147483648) = k at *
      have e0 : min ((-149 : Int) + (k : Int)) (-149) = -149 := by omega
      have e1 : ((-149 : Int) + (k : Int) - -149).toNat = k := by omega
      have e2 : m <<< k ≠ 0 := by rw [Nat.shiftLeft_eq]; exact Nat.mul_ne_zero hm (by have := Nat.two_pow_pos k; omega)
      have e3 : Ieee.single.nearest (x / 2147483648 % 2 == 1) (m <<< k) (-149) = x := by
        rw [Nat.shiftLeft_eq, show (-149 : Int) = (-149 + (k : Int)) - (k : Int) by omega, nearest_scale _ _ _ _ _ hm]
        exact hs
      generalize (x / 2147483648 % 2 == 1) = s at *
      show (Option.map Ieee.single.write (some (Ieee.Datum.number (if Ieee.signed s m (((-149 : Int) + (k : Int)) - min ((-149 : Int) + (k : Int)) (-149)).toNat + Ieee.signed false 0 ((-149 : Int) - min ((-149 : Int) + (k : Int)) (-149)).toNat = 0 then s && false else decide (Ieee.signed s m (((-149 : Int) + (k : Int)) - min ((-149 : Int) + (k : Int)) (-149)).toNat + Ieee.signed false 0 ((-149 : Int) - min ((-149 : Int) + (k : Int)) (-149)).toNat < 0)) (Ieee.signed s m (((-149 : Int) + (k : Int)) - min ((-149 : Int) + (k : Int)) (-149)).toNat + Ieee.signed false 0 ((-149 : Int) - min ((-149 : Int) + (k : Int)) (-149)).toNat).natAbs (min ((-149 : Int) + (k : Int)) (-149))))).getD (qn .f32) = x
      rw [e0, e1]
      have e4 : Ieee.signed false 0 ((-149 : Int) - -149).toNat = 0 := by decide
      rw [e4, Int.add_zero]
      unfold Ieee.signed
      generalize m <<< k = M at *
      cases s
      · simp only [Bool.false_eq_true, if_false]
        have e5 : ¬ ((M : Nat) : Int) = 0 := by omega
        have e6 : decide (((M : Nat) : Int) < 0) = false := by simp
        rw [if_neg e5, e6, Int.natAbs_natCast]
        exact e3
      · simp only [if_true]
        have e5 : ¬ -((M : Nat) : Int) = 0 := by omega
        have e6 : decide (-((M : Nat) : Int) < 0) = true := by simp; omega
        rw [if_neg e5, e6, Int.natAbs_neg, Int.natAbs_natCast]
        exact e3

/-- a number in its form, and not -0 -/
structure Cz (x : Nat) : Prop where
  lt : x < 4294967296
  nz : x ≠ 2147483648
  cn : Go.Proofs.Ythfkmcpajookaaa.cn .f32 x = x
theorem Cz.zero : Cz 0 := ⟨by decide, by decide, by decide +kernel⟩
theorem Cz.add0 {x : Nat} (h : Cz x) : fop .add .f32 x 0 = x := by
  cases hn : nn .f32 x
  · exact add_zero h.lt h.nz hn
  · have e := cn_of_nan hn
    rw [h.cn] at e
    unfold fop
    rw [floatBits_nan_left hn]
    exact e.symm

theorem near_pos32 (s : Bool) {m : Nat} {e : Int} (hz : m ≠ 0) (h0 : -149 ≤ e) : ∃ k, Ieee.single.nearest s m e = Ieee.single.word s k ∧ 0 < k ∧ k ≤ 2139095040 := by
  unfold Ieee.Format.nearest
  rw [if_neg hz, s_bin, s_inf, s_lp]
  refine ⟨_, rfl, ?_, Nat.min_le_right _ _⟩
  have hf : Ieee.single.fractionBits = 23 := rfl
  rw [hf]
  refine Nat.lt_min.2 ⟨?_, by decide⟩
  by_cases hl : (-149 : Int) < e + (m.log2 : Int) - ((23 : Nat) : Int)
  · rw [Int.max_eq_left (by omega)]
    have : 1 ≤ (e + (m.log2 : Int) - ((23 : Nat) : Int) - -149).toNat := by omega
    omega
  · rw [Int.max_eq_right (by omega)]
    have e1 : ((-149 : Int) - e).toNat = 0 := by omega
    rw [e1, cut_zero, Nat.shiftLeft_eq]
    have : 0 < m * 2 ^ (e - -149).toNat := Nat.mul_pos (by omega) (Nat.two_pow_pos _)
    omega
theorem word_nz (s : Bool) {k : Nat} (h : 0 < k) (h' : k ≤ 2139095040) : Ieee.single.word s k ≠ 2147483648 := by
  rw [s_word]
  cases s <;> simp <;> omega
theorem read_place {x : Nat} {s : Bool} {m : Nat} {e : Int} (h : Ieee.single.read x = .number s m e) : -149 ≤ e := by
  unfold Ieee.Format.read at h
  rw [s_bin, s_inf, s_sw, s_lp] at h
  dsimp only at h
  split at h
  · cases h; decide
  · split at h
    · cases h; omega
    · split at h <;> cases h
/-- only -0 reads as a negative zero -/
theorem read_neg0 {x : Nat} {e : Int} (hx : x < 4294967296) (h : Ieee.single.read x = .number true 0 e) : x = 2147483648 := by
  unfold Ieee.Format.read at h
  rw [s_bin, s_inf, s_sw, s_lp] at h
  dsimp only at h
  split at h
  · simp only [Ieee.Datum.number.injEq] at h
    obtain ⟨h1, h2, _⟩ := h
    have : x / 2147483648 % 2 = 1 := by simpa using h1
    omega
  · split at h
    · simp only [Ieee.Datum.number.injEq] at h
      omega
    · split at h <;> cases h

theorem add_nz {x y r : Nat} (hx : x < 4294967296) (hz : x ≠ 2147483648) (h : floatBits .add .f32 x y = some r) : r ≠ 2147483648 := by
  rw [f32_add] at h
  cases ex : Ieee.single.read x with
  | nan s t => rw [ex] at h; cases h
  | infinity s =>
    rw [ex] at h
    cases ey : Ieee.single.read y with
    | nan s t => rw [ey] at h; cases h
    | infinity t =>
      rw [ey] at h
      cases s <;> cases t <;> simp [Ieee.Datum.sum] at h <;> (subst h; decide +kernel)
    | number t m e =>
      rw [ey] at h
      simp [Ieee.Datum.sum] at h
      subst h
      cases s <;> decide +kernel
  | number s m e =>
    rw [ex] at h
    cases ey : Ieee.single.read y with
    | nan s t => rw [ey] at h; cases h
    | infinity t =>
      rw [ey] at h
      simp [Ieee.Datum.sum] at h
      subst h
      cases t <;> decide +kernel
    | number t n j =>
      rw [ey] at h
      have p1 := read_place ex
      have p2 := read_place ey
      have pm : -149 ≤ min e j := by omega
      have hs : ¬ (s = true ∧ m = 0) := by rintro ⟨rfl, rfl⟩; exact hz (read_neg0 hx ex)
      simp only [Ieee.Datum.sum, Option.map_some, Option.some.injEq] at h
      subst h
      by_cases h0 : Ieee.signed s m (e - min e j).toNat + Ieee.signed t n (j - min e j).toNat = 0
      · rw [if_pos h0, h0]
        have e1 : (s && t) = false := by
          cases s
          · rfl
          · cases t
            · rfl
            · exfalso
              unfold Ieee.signed at h0
              simp only [if_true] at h0
              have : m <<< (e - min e j).toNat = 0 := by
                generalize m <<< (e - min e j).toNat = A at h0 ⊢
                generalize n <<< (j - min e j).toNat = B at h0
                omega
              rw [Nat.shiftLeft_eq] at this
              have := Nat.two_pow_pos (e - min e j).toNat
              rcases Nat.mul_eq_zero.1 ‹m * 2 ^ (e - min e j).toNat = 0› with h | h
              · exact hs ⟨rfl, h⟩
              · omega
        rw [e1]
        show Ieee.single.nearest false 0 _ ≠ _
        unfold Ieee.Format.nearest
        rw [if_pos rfl]
        decide
      · rw [if_neg h0]
        obtain ⟨k, hk, k0, k1⟩ := near_pos32 (decide (Ieee.signed s m (e - min e j).toNat + Ieee.signed t n (j - min e j).toNat < 0)) (m := (Ieee.signed s m (e - min e j).toNat + Ieee.signed t n (j - min e j).toNat).natAbs) (e := min e j) (by omega) pm
        show Ieee.single.nearest _ _ _ ≠ _
        rw [hk]
        exact word_nz _ k0 k1

theorem Cz.add {x : Nat} (h : Cz x) (y : Nat) : Cz (fop .add .f32 x y) := by
  unfold fop
  cases e : floatBits .add .f32 x y with
  | none => exact ⟨by decide, by decide, by decide +kernel⟩
  | some r =>
    refine ⟨?_, add_nz h.lt h.nz e, cn_of_num (floatBits_num e)⟩
    rw [f32_add] at e
    exact Ieee.Format.map_write_lt Ieee.single e

theorem mul_fin {i k : Nat} (h : fin .f32 (fop .mul .f32 i k) = true) : fin .f32 i = true := by
  cases hi : fin .f32 i
  · exfalso
    cases hn : nn .f32 i
    · obtain ⟨s, hs⟩ := inf_of hi hn
      have e1 : Ieee.single.read i = .infinity s := hs
      have e : ∀ x y, floatBits .mul .f32 x y = ((Ieee.single.read x).product (Ieee.single.read y)).map Ieee.single.write := fun _ _ => rfl
      unfold fop at h
      rw [e i k, e1] at h
      cases hk : Ieee.single.read k with
      | number t m q =>
        rw [hk] at h
        by_cases hm : m = 0
        · simp [Ieee.Datum.product, hm] at h; revert h; decide +kernel
        · simp [Ieee.Datum.product, hm] at h; revert h; cases s <;> cases t <;> decide +kernel
      | infinity t => rw [hk] at h; revert h; cases s <;> cases t <;> decide +kernel
      | nan t p => rw [hk] at h; revert h; simp [Ieee.Datum.product]; decide +kernel
    · unfold fop at h
      rw [floatBits_nan_left hn] at h
      revert h
      decide +kernel
  · rfl
/-- where a sum is finite, both of its numbers are -/
theorem add_fin2 {i k : Nat} (h : fin .f32 (fop .add .f32 i k) = true) : fin .f32 i = true ∧ fin .f32 k = true := by
  have key : ∀ i k, fin .f32 i = false → fin .f32 (fop .add .f32 i k) = false ∧ fin .f32 (fop .add .f32 k i) = false := by
    intro i k hi
    cases hn : nn .f32 i
    · obtain ⟨s, hs⟩ := inf_of hi hn
      have e1 : FloatKind.f32.format.read i = .infinity s := hs
      have e : ∀ x y, floatBits .add .f32 x y = ((FloatKind.f32.format.read x).sum (FloatKind.f32.format.read y)).map FloatKind.f32.format.write := fun _ _ => rfl
      unfold fop
      rw [e i k, e k i, e1]
      cases hk : FloatKind.f32.format.read k with
      | number t m q => exact ⟨by simp [Ieee.Datum.sum]; cases s <;> decide +kernel, by simp [Ieee.Datum.sum]; cases s <;> decide +kernel⟩
      | infinity t => cases s <;> cases t <;> exact ⟨by decide +kernel, by decide +kernel⟩
      | nan t p => exact ⟨by simp [Ieee.Datum.sum]; decide +kernel, by simp [Ieee.Datum.sum]; decide +kernel⟩
    · unfold fop
      rw [floatBits_nan_left hn, floatBits_nan_right hn]
      exact ⟨by decide +kernel, by decide +kernel⟩
  constructor
  · cases hi : fin .f32 i
    · rw [(key i k hi).1] at h; cases h
    · rfl
  · cases hk : fin .f32 k
    · rw [(key k i hk).2] at h; cases h
    · rfl
end Go.Proofs.Ythfkmcpajookaaa

/- What flows into a cell of a plate, in numbers. -/
namespace Go.Proofs.Ythfkmcpajookaaa
open Go.RowKit
set_option linter.unusedVariables false

/-- how much passes between two cells -/
def psF (r : PL) (k m : Nat) : Nat := fop .quo .f32 (fop .mul .f32 (cn .f32 1073741824) (fop .mul .f32 (cn .f32 (r.E.getD k 0)) (cn .f32 (r.E.getD m 0)))) (fop .add .f32 (cn .f32 (r.E.getD k 0)) (cn .f32 (r.E.getD m 0)))
/-- what flows from one to another -/
def flF (r : PL) (k m : Nat) : Nat := fop .mul .f32 (psF r k m) (fop .sub .f32 (cn .f32 (r.W.getD m 0)) (cn .f32 (r.W.getD k 0)))
/-- what flows in at a side -/
def tF (r : PL) (x z k j : Nat) : Nat := bif decide (0 ≤ nbr x z k j) then flF r k (nbr x z k j).toNat else 0
/-- the sum of the first ones -/
def inS (r : PL) (x z k : Nat) : Nat → Nat
  | 0 => 0
  | j + 1 => fop .add .f32 (inS r x z k j) (tF r x z k j)
theorem inS_cz (r : PL) (x z k : Nat) : ∀ j, Cz (inS r x z k j)
  | 0 => Cz.zero
  | j + 1 => (inS_cz r x z k j).add _
theorem inS_skip {r : PL} {x z k j : Nat} (h : ¬ 0 ≤ nbr x z k j) : inS r x z k (j + 1) = inS r x z k j := by
  show fop .add .f32 (inS r x z k j) (tF r x z k j) = _
  have : tF r x z k j = 0 := by unfold tF; rw [decide_eq_false h]; rfl
  rw [this]
  exact (inS_cz r x z k j).add0
theorem inS_take {r : PL} {x z k j m : Nat} (h : nbr x z k j = (m : Int)) : inS r x z k (j + 1) = fop .add .f32 (inS r x z k j) (flF r k m) := by
  show fop .add .f32 (inS r x z k j) (tF r x z k j) = _
  have : tF r x z k j = flF r k m := by unfold tF; rw [h, decide_eq_true (by omega)]; rfl
  rw [this]
theorem tF_no {r : PL} {x z k j : Nat} (h : ¬ 0 ≤ nbr x z k j) : tF r x z k j = 0 := by unfold tF; rw [decide_eq_false h]; rfl
theorem tF_yes {r : PL} {x z k j m : Nat} (h : nbr x z k j = (m : Int)) : tF r x z k j = flF r k m := by unfold tF; rw [h, decide_eq_true (by omega)]; rfl
/-- where too much passes, what flows is not finite -/
theorem inS_nf {r : PL} {x z k j m : Nat} (hj : j < 4) (h : nbr x z k j = (m : Int)) (hf : fin .f32 (psF r k m) = false) : fin .f32 (inS r x z k 4) = false := by
  have h1 : fin .f32 (inS r x z k (j + 1)) = false := by
    rw [inS_take h]
    cases e : fin .f32 (fop .add .f32 (inS r x z k j) (flF r k m))
    · rfl
    · have := (add_fin2 e).2
      unfold flF at this
      rw [mul_fin this] at hf
      cases hf
  have step : ∀ i, fin .f32 (inS r x z k i) = false → fin .f32 (inS r x z k (i + 1)) = false := fun i hi => by
    show fin .f32 (fop .add .f32 (inS r x z k i) (tF r x z k i)) = false
    cases e : fin .f32 (fop .add .f32 (inS r x z k i) (tF r x z k i))
    · rfl
    · rw [(add_fin2 e).1] at hi; cases hi
  have all : ∀ d, fin .f32 (inS r x z k (j + 1 + d)) = false := fun d => by
    induction d with
    | zero => exact h1
    | succ d ih => exact step (j + 1 + d) ih
  have h4 := all (3 - j)
  rw [show j + 1 + (3 - j) = 4 by omega] at h4
  exact h4
theorem cn_self_fop {x : Nat} (op : BinOp) (a b : Nat) (h : x = fop op .f32 a b) : cn .f32 x = x := by rw [h, pcn_fop]

/-- the program's: how much passes -/
theorem implPass_any (r : PL) (a c d : Value) (b1 o1 k1 n k m : Nat) (w : World) (n9 : n ≤ 144) (hk : k < n) (hm : m < n) (hE : ∀ i, i < n → w.cell? ⟨b1, o1 + i, none⟩ = some (.float .f32 (r.E.getD i 0))) :
    Calls Try.prog 93 #[.agg #[.int .i64 r.X, .int .i64 r.Y, a, ps b1 o1 n k1, c, d], .int .i64 (k : Int), .int .i64 (m : Int)] w (FlP (psF r k m) w) := by
  have z1 := hE k hk
  have z2 := hE m hm
  have P0 : Hid (psF r k m = fop .quo .f32 (fop .mul .f32 (cn .f32 1073741824) (fop .mul .f32 (cn .f32 (r.E.getD k 0)) (cn .f32 (r.E.getD m 0)))) (fop .add .f32 (cn .f32 (r.E.getD k 0)) (cn .f32 (r.E.getD m 0)))) := Lib.hid rfl
  have l1 : b1 < w.heap.size := cell_lt z1
  generalize r.E.getD k 0 = e1 at *
  generalize r.E.getD m 0 = e2 at *
  generalize psF r k m = S at *
  have hi : (0 : Int) ≤ (k : Int) := by omega
  have hi' : (k : Int) < (n : Int) := by omega
  have hj : (0 : Int) ≤ (m : Int) := by omega
  have hj' : (m : Int) < (n : Int) := by omega
  clear hE
  go_enter Try.func93, Try.ntmps93
  go_wp2
  go_region
  go_wp2_with (first | (refine wpList_farith rfl _ _ _ _ _ rfl rfl _ _ _ rfl rfl ?_; intro _ _ _))
  go_ret
  rename_i h1 _ _ h2 _ _ h3 _ _ h4
  exact ⟨_, by rw [h4.1, h2.1, h1.1, h3.1, P0.out], rfl, (by repeat (first | exact Below.refl _ _ | refine Below.setCell ?_ (by first | exact Nat.le_refl _ | (simp; done) | (simp; omega) | omega) _ | refine below_drewN ?_ _ | refine Below.alloc ?_ (by first | exact Nat.le_refl _ | (simp; done) | (simp; omega) | omega) _))⟩
/-- the specification's -/
theorem specPass_any (r : PL) (a c d : Value) (b1 o1 k1 n k m p : Nat) (w : World) (A : Cells w p (pvs r a (ps b1 o1 n k1) c d)) (n9 : n ≤ 144) (hk : k < n) (hm : m < n) (hE : ∀ i, i < n → w.cell? ⟨b1, o1 + i, none⟩ = some (.float .f32 (r.E.getD i 0))) :
    Calls Try.prog 90 #[.pointer (some ⟨p, 0, none⟩), .int .i64 (k : Int), .int .i64 (m : Int)] w fun e w' => ∃ s, cn .f32 s = psF r k m ∧ e = .returned (.float .f32 s) ∧ ∃ n, w' = w.drewN n := by
  have z1 := hE k hk
  have z2 := hE m hm
  have c3 := A.at 3 rfl
  have P0 : Hid (psF r k m = fop .quo .f32 (fop .mul .f32 (cn .f32 1073741824) (fop .mul .f32 (cn .f32 (r.E.getD k 0)) (cn .f32 (r.E.getD m 0)))) (fop .add .f32 (cn .f32 (r.E.getD k 0)) (cn .f32 (r.E.getD m 0)))) := Lib.hid rfl
  generalize r.E.getD k 0 = e1 at *
  generalize r.E.getD m 0 = e2 at *
  generalize psF r k m = S at *
  have hi : (0 : Int) ≤ (k : Int) := by omega
  have hi' : (k : Int) < (n : Int) := by omega
  have hj : (0 : Int) ≤ (m : Int) := by omega
  have hj' : (m : Int) < (n : Int) := by omega
  clear hE A
  go_enter Try.func90, Try.ntmps90
  go_wp2
  refine wp_region_loose (fun _ _ _ => True) (by kernel_rfl) (by kernel_rfl) ?_
  repeat (first | (refine wpLoose_farith rfl _ _ _ _ _ rfl rfl _ _ _ rfl rfl ?_; intro _ _) | (refine wpLoose_valK rfl ?_ (fun w1 hw1 => ?_) (fun K hK => ?_); rotate_left; (focus (obtain ⟨nq, rfl⟩ := hw1; go_simp; first | done | rfl)); go_simp; refine hK _ ?_; clear hK K))
  (refine wpLoose_nil ?_; rintro _ ⟨nq, rfl⟩)
  go_wp2
  refine wp_region_loose (fun _ _ _ => True) (by kernel_rfl) (by kernel_rfl) ?_
  repeat (first | (refine wpLoose_farith rfl _ _ _ _ _ rfl rfl _ _ _ rfl rfl ?_; intro _ _) | (refine wpLoose_valK rfl ?_ (fun w1 hw1 => ?_) (fun K hK => ?_); rotate_left; (focus (obtain ⟨nq, rfl⟩ := hw1; go_simp; first | done | rfl)); go_simp; refine hK _ ?_; clear hK K))
  (refine wpLoose_nil ?_; rintro _ ⟨nq, rfl⟩)
  go_wp2
  go_ret
  rename_i h1 _ _ h2 _ h3 _ h4
  exact ⟨_, by first | rw [h4.1, h2.1, h3.1, h1.1, P0.out] | rw [h4.1, h3.1, h2.1, h1.1, P0.out], rfl, _, by first | rfl | rw [World.drewN_drewN]⟩
end Go.Proofs.Ythfkmcpajookaaa

/- Drawn regions whose operations may hand back any of several values: the steps of operations that are guarded ('&&', '||'). -/
namespace Go.Proofs.Ythfkmcpajookaaa
open Go.RowKit

section
variable {P : Program} {ops : Array Oper} {C : World → Prop} {Sg : FuncId → Array Value → Value → Prop}
variable {Q : Act → Prop} {a : Act} {o : Oper} {rest : List Oper} {w : World}

/-- there is an operation left (for a step that fails at once where there is none) -/
theorem wpLoose_cons (h : wpLoose P ops C Sg Q (o :: rest) a) : wpLoose P ops C Sg Q (o :: rest) a := h

theorem wpLoose_skip (hw : Region.wanted o (yielded ops a.tmps) = false) (h : ∀ K : Act → Prop, (∀ a, wpLoose P ops C Sg Q rest a → K a) → K (a.put o.dst undef)) : wpLoose P ops C Sg Q (o :: rest) a := by
  unfold wpLoose
  rw [if_neg (by rw [hw]; decide)]
  exact h _ fun _ h => h

theorem wpLoose_someG (hw : Region.wanted o (yielded ops a.tmps) = true) (V : Value → Prop) (hv : ∀ w, C w → ∃ v w', V v ∧ C w' ∧ (execOp a.eval o).run P w = .ok (.value v) w') (h : ∀ v, V v → wpLoose P ops C Sg Q rest (a.put o.dst v)) : wpLoose P ops C Sg Q (o :: rest) a := by
  unfold wpLoose
  rw [if_pos hw]
  refine ⟨fun w hw => ?_, ?_⟩
  · obtain ⟨v, w', _, hc, e⟩ := hv w hw
    rw [e]; exact hc
  · rintro u ⟨w, hw, hu⟩
    obtain ⟨v, w', hV, hc, e⟩ := hv w hw
    rw [e] at hu
    change u = v at hu
    subst hu
    exact h _ hV

theorem wpLoose_valG (hw : Region.wanted o (yielded ops a.tmps) = true) (v : Value) (hv : ∀ w', C w' → (execOp a.eval o).run P w' = .ok (.value v) w') (h : ∀ K : Act → Prop, (∀ a, wpLoose P ops C Sg Q rest a → K a) → K (a.put o.dst v)) : wpLoose P ops C Sg Q (o :: rest) a :=
  wpLoose_someG hw (· = v) (fun w' hw' => ⟨v, w', rfl, hw', hv w' hw'⟩) (fun _ e => by rw [e]; exact h _ fun _ h => h)

theorem wpLoose_farithG (hw : Region.wanted o (yielded ops a.tmps) = true) (op : BinOp) (t : TypeId) (x y : Operand) (t' : TypeId) (ho : o.op = .binOp op t x y t') (hop : isArith op = true) (k : FloatKind) (m n : Nat)
    (hx : a.eval x = .float k m) (hy : a.eval y = .float k n) (h : ∀ r, FR op k m n r → wpLoose P ops (Drawn w) Sg Q rest (a.put o.dst (.float k r))) : wpLoose P ops (Drawn w) Sg Q (o :: rest) a := by
  refine wpLoose_someG hw (fun v => ∃ r, FR op k m n r ∧ v = .float k r) (fun w1 hw1 => ?_) (fun v ⟨r, hr, e⟩ => by rw [e]; exact h r hr)
  obtain ⟨r, j, hr, hw⟩ := run_farith (P := P) op hop t k m n w1
  refine ⟨_, _, ⟨r, hr, rfl⟩, drawn_again hw1 j, ?_⟩
  have hg : (eqGuard op t x y (.float k m) (.float k n)) = pure () := by
    cases op <;> simp [isArith] at hop <;> rfl
  unfold execOp
  simp only [ho, hx, hy, hg, Sem.run_bind, Sem.run_pure, Result.andThen_ok, hw]

/-- a call of a function that only draws, by its contract -/
theorem wpLoose_callG (hw : Region.wanted o (yielded ops a.tmps) = true) (f : FuncId) (args : Array Value) (hr : ∀ w1, (execOp a.eval o).run P w1 = .ok (.enter f args) w1)
    (hc : ∀ w1, Drawn w w1 → Calls P f args w1 fun e w2 => ∃ v, e = .returned v ∧ Sg f args v ∧ Drawn w1 w2) (h : ∀ v, Sg f args v → wpLoose P ops (Drawn w) Sg Q rest (a.put o.dst v)) : wpLoose P ops (Drawn w) Sg Q (o :: rest) a := by
  unfold wpLoose
  rw [if_pos hw]
  refine ⟨fun w1 hw1 => ?_, ?_⟩
  · rw [hr w1]
    refine ⟨hw1, (hc w1 hw1).mono fun e w2 ⟨v, he, hs, m, hm⟩ => ⟨v, he, hs, ?_⟩⟩
    rw [hm]; exact drawn_again hw1 m
  · rintro u ⟨w1, hw1, hu⟩
    rw [hr w1] at hu
    exact h _ hu

/-- a call of a function that makes memory, by its contract -/
theorem wpLoose_callGS (hw : Region.wanted o (yielded ops a.tmps) = true) (f : FuncId) (args : Array Value) (hr : ∀ w1, (execOp a.eval o).run P w1 = .ok (.enter f args) w1)
    (hc : ∀ w1, Ext w w1 → Calls P f args w1 fun e w2 => ∃ v, e = .returned v ∧ Sg f args v ∧ Below w1.heap.size w1 w2) (h : ∀ v, Sg f args v → wpLoose P ops (Ext w) Sg Q rest (a.put o.dst v)) :
    wpLoose P ops (Ext w) Sg Q (o :: rest) a := by
  unfold wpLoose
  rw [if_pos hw]
  refine ⟨fun w1 hw1 => ?_, ?_⟩
  · rw [hr w1]
    exact ⟨hw1, (hc w1 hw1).mono fun e w2 ⟨v, he, hs, hb⟩ => ⟨v, he, hs, below_step hw1 hb⟩⟩
  · rintro u ⟨w1, hw1, hu⟩
    rw [hr w1] at hu
    exact h _ hu
end

/-- what calls of functions of one number (whether it is finite) and of another kind (a number up to a not-a-number's bits) hand back -/
def SgW (S : Nat) (_f : FuncId) (args : Array Value) (v : Value) : Prop :=
  match args.toList with
  | [.float .f32 x] => v = .bool (fin .f32 x)
  | _ => ∃ r, cn .f32 r = S ∧ v = .float .f32 r
end Go.Proofs.Ythfkmcpajookaaa

/- What flows into a cell of a plate: the specification's side. -/
namespace Go.Proofs.Ythfkmcpajookaaa
open Go.RowKit
set_option linter.unusedVariables false

theorem nvs_at (x z k : Nat) : ∀ j, j < 4 → (nvs x z k)[j]? = some (.int .i64 (nbr x z k j))
  | 0, _ => rfl
  | 1, _ => rfl
  | 2, _ => rfl
  | 3, _ => rfl
theorem giv_fin {I s : Nat} {w w' : World} (h : cn .f32 s = I) (hb : Below w.heap.size w w') : GivB (ifF I) (fin .f32 I) w (.returned (.tuple #[.float .f32 (ifF s), .bool (fin .f32 s)])) w' := GivB.num h hb
theorem giv_nf {I : Nat} {w w' : World} (h : fin .f32 I = false) (hb : Below w.heap.size w w') : GivB (ifF I) (fin .f32 I) w (.returned (.tuple #[.float .f32 0, .bool false])) w' := by
  have e : ifF I = 0 := by unfold ifF; rw [h]; rfl
  rw [e, h]; exact GivB.no hb

set_option maxRecDepth 10000 in
set_option maxHeartbeats 1600000 in
theorem specInto_any (x y z n k : Nat) (a b c d : Value) (r : PL) (p : Nat) (w : World) (A0 : Cells w p (pvs r a b c d)) (h : PRow w a b c d r) (hl : PlN r n) (S : Sd r x y n) (hz : x * (y - 1) = z) (hk : k < n) :
    Calls Try.prog 78 #[.pointer (some ⟨p, 0, none⟩), .int .i64 (k : Int)] w (GivB (ifF (inS r x z k 4)) (fin .f32 (inS r x z k 4)) w) := by
  obtain ⟨b0, o0, k0, b1, o1, k1, b2, o2, k2, b3, o3, k3, rfl, rfl, rfl, rfl, hL⟩ := h.lay hl
  have A := Lib.hid A0
  have LY := Lib.hid hL
  have N9 := Lib.hid hl.q
  have NEAR := Lib.hid (specNear_any x y z n k _ _ _ _ r p w A0 S hz hk)
  have NN := Lib.hid (fun j h => nbr_nat S hz hk j h)
  have NF := Lib.hid (fun j m hj h hf => inS_nf (r := r) (x := x) (z := z) (k := k) (j := j) (m := m) hj h hf)
  have SK := Lib.hid (fun j h => inS_skip (r := r) (x := x) (z := z) (k := k) (j := j) h)
  have TK := Lib.hid (fun j m h => inS_take (r := r) (x := x) (z := z) (k := k) (j := j) (m := m) h)
  have S0 : Hid (cn .f32 0 = inS r x z k 0) := Lib.hid (show cn .f32 0 = 0 by decide +kernel)
  have AT := Lib.hid (nvs_at x z k)
  have HK := Lib.hid hk
  clear A0 h hl S hz hL
  generalize inS r x z k = I at *
  generalize nbr x z k = nb at *

  have c0 := A.out.at 0 rfl; have c1 := A.out.at 1 rfl; have c2 := A.out.at 2 rfl; have c3 := A.out.at 3 rfl; have c4 := A.out.at 4 rfl; have c5 := A.out.at 5 rfl
  go_enter Try.func78, Try.ntmps78
  go_wp2_with fail
  refine NEAR.out.mono ?_
  rintro e w1 ⟨g, rfl, hg, Gc, hb⟩
  have GC := Lib.hid Gc
  have Bw := Lib.hid hb
  have A := Lib.hid (A.out.kept hb)
  have LY := Lib.hid (LY.out.below hb)
  clear c0 c1 c2 c3 c4 c5
  clear Gc hb hg NEAR
  have c0 := A.out.at 0 rfl; have c1 := A.out.at 1 rfl; have c2 := A.out.at 2 rfl; have c3 := A.out.at 3 rfl; have c4 := A.out.at 4 rfl; have c5 := A.out.at 5 rfl
  go_wp2
  go_loopw [7, 8] (fun s i wr => ∃ j x m : Nat, j ≤ 4 ∧ i = .int .i64 j ∧ s = .float .f32 x ∧ Hid (cn .f32 x = I j) ∧ wr = w1.drewN m) (fun _ i _ => 4 - (intOf i).toNat)
  case atStart => exact ⟨0, 0, 0, Nat.zero_le _, rfl, rfl, S0, rfl⟩
  case round =>
    obtain ⟨j, x, m, hj, rfl, rfl, hx, rfl⟩ := hrel
    have hn := N9.out
    have hk := HK.out
    by_cases hlt : j < 4
    · have z0 := GC.out.at j (AT.out j hlt)
      have hi : (0 : Int) ≤ (j : Int) := by omega
      have hi' : (j : Int) < 4 := by omega
      by_cases hn0 : 0 ≤ nb j
      · obtain ⟨mm, hm, hmn⟩ := NN.out j hn0
        have T := Lib.hid (TK.out j mm hm)
        have NFj := Lib.hid (NF.out j mm hlt hm)
        rw [hm] at z0
        have zk := LY.out.W k hk
        have zm := LY.out.W mm hmn
        have PS := Lib.hid (fun q => specPass_any r _ _ _ b1 o1 k1 n k mm p (w1.drewN q) A.out.drewN hn hk hmn (fun i hi => LY.out.E i hi))
        have F0 : Hid (flF r k mm = fop .mul .f32 (psF r k mm) (fop .sub .f32 (cn .f32 (r.W.getD mm 0)) (cn .f32 (r.W.getD k 0)))) := Lib.hid rfl
        generalize flF r k mm = FL at *
        generalize psF r k mm = PP at *
        generalize r.W.getD k 0 = yk at *
        generalize r.W.getD mm 0 = ym at *
        have f1 : decide ((mm : Int) < 0) = false := by simp
        have hm0 : (0 : Int) ≤ (mm : Int) := by omega
        have hm1 : (mm : Int) < (n : Int) := by omega
        have hk0 : (0 : Int) ≤ (k : Int) := by omega
        have hk1 : (k : Int) < (n : Int) := by omega
        clear hn0 hm
        go_wp2_with fail
        refine (PS.out _).mono ?_
        rintro e w' ⟨s, hs, rfl, q, rfl⟩
        have HS := Lib.hid hs
        have hf : fin .f32 s = fin .f32 PP := by rw [← hs, fin_cn]
        clear hs
        cases B : fin .f32 PP
        · rw [B] at hf
          have V := Lib.hid (NFj.out B)
          go_wp2_with fail
          refine (specFinite_any s _).mono ?_
          rw [hf]
          rintro e w' ⟨rfl, q2, rfl⟩
          go_wp2
          go_ret2
          exact giv_nf V.out (by first | exact below_drewN Bw.out _ | exact Bw.out)
        · rw [B] at hf
          go_wp2_with fail
          refine (specFinite_any s _).mono ?_
          rw [hf]
          rintro e w' ⟨rfl, q2, rfl⟩
          go_wp2
          refine wp_region_loose (fun _ _ _ => True) (by kernel_rfl) (by kernel_rfl) ?_
          repeat (first | (refine wpLoose_farith rfl _ _ _ _ _ rfl rfl _ _ _ rfl rfl ?_; intro _ _) | (refine wpLoose_valK rfl ?_ (fun w1 hw1 => ?_) (fun K hK => ?_); rotate_left; (focus (obtain ⟨nq, rfl⟩ := hw1; go_simp; first | done | rfl)); go_simp; refine hK _ ?_; clear hK K))
          (refine wpLoose_nil ?_; rintro _ ⟨nq, rfl⟩)
          go_wp2
          rename_i r1 g1 r2 g2 r3 g3
          go_roundw
          case rel => exact ⟨j + 1, _, _, by omega, by go_num, rfl, Lib.hid (by rw [g3.1, g2.1, g1.1, hx.out, HS.out, T.out, F0.out]), by first | rfl | rw [World.drewN_drewN]⟩
          case measure => simp [intOf]; omega
      · have T := Lib.hid (SK.out j (by omega))
        have f1 : decide (nb j < 0) = true := by simp; omega
        have f2 : nb j < 0 := by omega
        go_wp2
        go_roundw
        case rel => exact ⟨j + 1, _, _, by omega, by go_num, rfl, Lib.hid (by rw [hx.out, T.out]), rfl⟩
        case measure => simp [intOf]; omega
    · have e := Lib.hid (show j = 4 by omega)
      go_wp2_with fail
      refine (specNum_any _ _).mono ?_
      rintro e w' ⟨rfl, q2, rfl⟩
      go_wp2
      go_ret2
      exact giv_fin (by rw [hx.out, e.out]) (by first | exact below_drewN Bw.out _ | exact Bw.out)
end Go.Proofs.Ythfkmcpajookaaa

/- What flows into a cell of a plate: the program's side. -/
namespace Go.Proofs.Ythfkmcpajookaaa
open Go.RowKit
set_option linter.unusedVariables false

theorem isCell_any (r : PL) (a b c d : Value) (n : Nat) (i : Int) (w : World) (hl : PlN r n) : Calls Try.prog 86 #[.agg #[.int .i64 r.X, .int .i64 r.Y, a, b, c, d], .int .i64 i] w (BolB (decide (0 ≤ i) && decide (i < (n : Int))) w) := by
  have hn := hl.xy
  have n9 := hl.q
  clear hl
  by_cases h : 0 ≤ i
  · have f1 : decide ((0 : Int) ≤ i) = true := by simp; omega
    go_enter Try.func86, Try.ntmps86
    go_wp2_with fail
    refine (countOf_any _ _ n _ _ _ _ _ hn n9).mono ?_
    rintro e w1 ⟨rfl, hb⟩
    go_wp2
    go_ret
    exact ⟨by rw [f1]; rfl, below_step (below_al1 _ _) hb⟩
  · have f1 : decide ((0 : Int) ≤ i) = false := by simp; omega
    go_enter Try.func86, Try.ntmps86
    go_wp2
    go_ret
    exact ⟨rfl, below_al1 _ _⟩

set_option maxRecDepth 10000 in
set_option maxHeartbeats 1600000 in
theorem flowBeside_any (x y z n k j : Nat) (a b c d : Value) (r : PL) (w : World) (h : PRow w a b c d r) (hl : PlN r n) (S : Sd r x y n) (hz : x * (y - 1) = z) (hk : k < n) (hj : j < 4) :
    Calls Try.prog 81 #[.agg #[.int .i64 r.X, .int .i64 r.Y, a, b, c, d], .int .i64 (k : Int), .int .i64 (j : Int)] w (FlP (tF r x z k j) w) := by
  obtain ⟨b0, o0, k0, b1, o1, k1, b2, o2, k2, b3, o3, k3, rfl, rfl, rfl, rfl, hL⟩ := h.lay hl
  have N9 := Lib.hid hl.q
  have BES := Lib.hid (fun w1 => beside_any x y z n k j hj (ps b0 o0 n k0) (ps b1 o1 n k1) (ps b2 o2 n k2) (ps b3 o3 n k3) r w1 S hz hk)
  have NN := Lib.hid (fun h => nbr_nat S hz hk j h)
  have TN := Lib.hid (fun h => tF_no (r := r) (x := x) (z := z) (k := k) (j := j) h)
  have TY := Lib.hid (fun m h => tF_yes (r := r) (x := x) (z := z) (k := k) (j := j) (m := m) h)
  have LY := Lib.hid (hL.below (below_al1 w (.cells (pvs r (ps b0 o0 n k0) (ps b1 o1 n k1) (ps b2 o2 n k2) (ps b3 o3 n k3)).toArray 26)))
  have HK := Lib.hid hk
  clear h hl S hz hL hk
  generalize tF r x z k j = T at *
  generalize nbr x z k j = nb at *
  have A := Lib.hid (Cells.made w (pvs r (ps b0 o0 n k0) (ps b1 o1 n k1) (ps b2 o2 n k2) (ps b3 o3 n k3)) 26)
  have Bw := Lib.hid (below_al1 w (.cells (pvs r (ps b0 o0 n k0) (ps b1 o1 n k1) (ps b2 o2 n k2) (ps b3 o3 n k3)).toArray 26))
  go_enter Try.func81, Try.ntmps81
  go_wp2_with fail
  refine (BES.out _).mono ?_
  rintro e w1 ⟨v, rfl, hv, hb⟩
  have HV := Lib.hid hv
  have Bw := Lib.hid (below_step Bw.out hb)
  have A := Lib.hid (A.out.kept hb)
  have LY := Lib.hid (LY.out.below hb)
  clear hv hb BES
  have c0 := A.out.at 0 rfl; have c1 := A.out.at 1 rfl; have c2 := A.out.at 2 rfl; have c3 := A.out.at 3 rfl; have c4 := A.out.at 4 rfl; have c5 := A.out.at 5 rfl
  by_cases hn0 : 0 ≤ nb
  · obtain ⟨m, hm, hmn⟩ := NN.out hn0
    obtain rfl := HV.out hn0
    have T2 := Lib.hid (TY.out m hm)
    subst hm
    have f1 : decide ((0 : Int) ≤ (m : Int)) = true := by simp
    have hn := N9.out
    have hk := HK.out
    have zk := LY.out.W k hk
    have zm := LY.out.W m hmn
    have hm0 : (0 : Int) ≤ (m : Int) := by omega
    have hm1 : (m : Int) < (n : Int) := by omega
    have hk0 : (0 : Int) ≤ (k : Int) := by omega
    have hk1 : (k : Int) < (n : Int) := by omega
    have FACT := Lib.hid (fun w2 (hw : Ext w1 w2) => And.intro (Ext.cell hw c0) (And.intro (Ext.cell hw c1) (And.intro (Ext.cell hw c2) (And.intro (Ext.cell hw c3) (And.intro (Ext.cell hw c4) (And.intro (Ext.cell hw c5) (And.intro (Ext.cell hw zk) (Ext.cell hw zm))))))))
    have PS := Lib.hid (fun w2 (hw : Ext w1 w2) => implPass_any r (ps b0 o0 n k0) (ps b2 o2 n k2) (ps b3 o3 n k3) b1 o1 k1 n k m w2 hn hk hmn (fun i hi => Ext.cell hw (LY.out.E i hi)))
    have F0 : Hid (flF r k m = fop .mul .f32 (psF r k m) (fop .sub .f32 (cn .f32 (r.W.getD m 0)) (cn .f32 (r.W.getD k 0)))) := Lib.hid rfl
    generalize flF r k m = FL at *
    generalize psF r k m = PP at *
    generalize r.W.getD k 0 = yk at *
    generalize r.W.getD m 0 = ym at *
    clear hn0 HV NN TN TY
    go_wp2
    refine wp_region_looseC (Ext _) (fun _ _ v => ∃ s, cn .f32 s = PP ∧ v = .float .f32 s) (Ext.start _) (by kernel_rfl) (by kernel_rfl) ?_
    repeat (first | (refine wpLoose_farithB rfl _ _ _ _ _ rfl rfl _ _ _ rfl rfl ?_; intro _ _) | (refine wpLoose_valK rfl ?_ (fun w1 hw1 => ?_) (fun K hK => ?_); rotate_left; (focus (have hF := FACT.out w1 hw1; go_simp; first | done | rfl)); go_simp; refine hK _ ?_; clear hK K))
    refine wpLoose_callS rfl 93 #[.agg #[.int .i64 r.X, .int .i64 r.Y, (ps b0 o0 n k0), (ps b1 o1 n k1), (ps b2 o2 n k2), (ps b3 o3 n k3)], .int .i64 (k : Int), .int .i64 (m : Int)] (fun w2 => ?_) (fun w2 hw2 => ?_) (fun v hv => ?_)
    · go_simp
    · refine (PS.out w2 hw2).mono ?_
      rintro e w3 ⟨s, hs, rfl, hb⟩
      exact ⟨_, rfl, ⟨s, hs, rfl⟩, hb⟩
    obtain ⟨s, hs, rfl⟩ := hv
    repeat (first | (refine wpLoose_farithB rfl _ _ _ _ _ rfl rfl _ _ _ rfl rfl ?_; intro _ _) | (refine wpLoose_valK rfl ?_ (fun w1 hw1 => ?_) (fun K hK => ?_); rotate_left; (focus (have hF := FACT.out w1 hw1; go_simp; first | done | rfl)); go_simp; refine hK _ ?_; clear hK K))
    refine wpLoose_nil ?_; intro w1 hb
    have B9 := Lib.hid (below_step Bw.out hb)
    clear hb
    go_wp2
    go_ret
    rename_i r1 g1 r2 g2
    exact ⟨_, by rw [g2.1, g1.1, hs, T2.out, F0.out], rfl, B9.out⟩
  · have f1 : decide (0 ≤ nb) = false := by simp; omega
    have T2 := Lib.hid (TN.out (by omega))
    clear HV NN TN TY
    go_wp2
    go_ret
    exact ⟨0, by rw [T2.out]; decide +kernel, rfl, Bw.out⟩

set_option maxHeartbeats 1600000 in
theorem flowInto_any (x y z n k : Nat) (a b c d : Value) (r : PL) (w : World) (h : PRow w a b c d r) (hl : PlN r n) (S : Sd r x y n) (hz : x * (y - 1) = z) (hk : k < n) :
    Calls Try.prog 67 #[.agg #[.int .i64 r.X, .int .i64 r.Y, a, b, c, d], .int .i64 (k : Int)] w (FlP (inS r x z k 4) w) := by
  have FB := Lib.hid (fun j hj w1 (hb : Below w.heap.size w w1) => flowBeside_any x y z n k j a b c d r w1 (h.below hb) hl S hz hk hj)
  have S0 : Hid (cn .f32 0 = inS r x z k 0) := Lib.hid (show cn .f32 0 = 0 by decide +kernel)
  have SU : Hid (∀ j, inS r x z k (j + 1) = fop .add .f32 (inS r x z k j) (tF r x z k j)) := Lib.hid (fun j => rfl)
  clear h hl S hz hk
  generalize inS r x z k = I at *
  generalize tF r x z k = T at *
  have A := Lib.hid (Cells.made w (pvs r a b c d) 26)
  have Bw := Lib.hid (below_al1 w (.cells (pvs r a b c d).toArray 26))
  go_enter Try.func67, Try.ntmps67
  go_wp2
  go_loopw [5, 7] (fun s i wr => ∃ j x : Nat, j ≤ 4 ∧ i = .int .i64 j ∧ s = .float .f32 x ∧ Hid (cn .f32 x = I j) ∧ Hid (Below w.heap.size w wr) ∧ Hid (Cells wr w.heap.size (pvs r a b c d))) (fun _ i _ => 4 - (intOf i).toNat)
  case atStart => exact ⟨0, 0, Nat.zero_le _, rfl, rfl, S0, Bw, A⟩
  case round =>
    obtain ⟨j, x, hj, rfl, rfl, hx, B0, A0⟩ := hrel
    by_cases hlt : j < 4
    · have hi : (0 : Int) ≤ (j : Int) := by omega
      have hi' : (j : Int) < 4 := by omega
      have c0 := A0.out.at 0 rfl
      have c1 := A0.out.at 1 rfl
      have c2 := A0.out.at 2 rfl
      have c3 := A0.out.at 3 rfl
      have c4 := A0.out.at 4 rfl
      have c5 := A0.out.at 5 rfl
      have FJ := Lib.hid (FB.out j hlt)
      go_wp2_with fail
      refine (FJ.out _ B0.out).mono ?_
      rintro e w2 ⟨s, hs, rfl, hb⟩
      have HS := Lib.hid hs
      have B1 := Lib.hid (below_step B0.out hb)
      have A1 := Lib.hid (A0.out.kept hb)
      clear hs hb
      go_wp2_with (first | (refine wpList_farith rfl _ _ _ _ _ rfl rfl _ _ _ rfl rfl ?_; intro _ _ _))
      rename_i r1 j1 g1
      go_roundw
      case rel => exact ⟨j + 1, _, by omega, by go_num, rfl, Lib.hid (by rw [g1.1, hx.out, HS.out, SU.out]), Lib.hid (below_drewN B1.out _), Lib.hid A1.out.drewN⟩
      case measure => simp [intOf]; omega
    · have e := Lib.hid (show j = 4 by omega)
      go_wp2
      go_ret
      exact ⟨_, by rw [hx.out, e.out], rfl, B0.out⟩
end Go.Proofs.Ythfkmcpajookaaa

/- Whether a plate is valid and has a cell; what flows into it: both sides and the law. -/
namespace Go.Proofs.Ythfkmcpajookaaa
open Go.RowKit
set_option linter.unusedVariables false

def okC (r : PL) (i : Int) : Bool := vPl r && (decide (0 ≤ i) && decide (i < (r.W.length : Int)))
theorem Sd.std {r : PL} {n : Nat} (h : PlN r n) : Sd r r.X.toNat r.Y.toNat n := by
  refine ⟨by have := h.X1; omega, by have := h.Y1; omega, by have := h.X1; omega, by have := h.X2; omega, by have := h.Y1; omega, by have := h.Y2; omega, ?_, h.q⟩
  have h1 := h.xy
  have h2 := h.X1
  have h3 := h.Y1
  have e : ((r.X.toNat * r.Y.toNat : Nat) : Int) = r.X * r.Y := by rw [Int.natCast_mul, Int.toNat_of_nonneg (by omega), Int.toNat_of_nonneg (by omega)]
  omega
theorem okC_nat {r : PL} {i : Int} (h : okC r i = true) : vPl r = true ∧ i = (i.toNat : Int) ∧ i.toNat < r.W.length := by
  unfold okC at h
  simp only [Bool.and_eq_true, decide_eq_true_eq] at h
  exact ⟨h.1, by omega, by omega⟩
def SgH (r : PL) (bb : Bool) (f : FuncId) (_ : Array Value) (v : Value) : Prop := (f = 59 → v = .bool (vPl r)) ∧ (f = 32 → v = .bool bb)

set_option maxRecDepth 10000 in
set_option maxHeartbeats 1600000 in
theorem specHas_any (r : PL) (i : Int) (a b c d : Value) (p : Nat) (w : World) (A : Cells w p (pvs r a b c d)) (h : PRow w a b c d r) : Calls Try.prog 70 #[.pointer (some ⟨p, 0, none⟩), .int .i64 i] w (Bol (okC r i) w) := by
  have IV := Lib.hid (fun q => specPl_any a b c d r p (w.drewN q) A.drewN (h.below (below_drewN (Below.refl _ _) _)))
  have c0 := A.at 0 rfl
  have c1 := A.at 1 rfl
  cases hv : vPl r
  · have E : Hid (okC r i = false) := Lib.hid (by unfold okC; rw [hv]; rfl)
    rw [hv] at IV
    have HV := Lib.hid hv
    clear h A hv
    go_enter Try.func70, Try.ntmps70
    go_wp2
    refine wp_region_loose (SgH r false) (by kernel_rfl) (by kernel_rfl) ?_
    try simp only [List.append]
    repeat ((with_reducible refine wpLoose_cons ?_); (first | ((with_reducible refine wpLoose_skip ?_ ?_); (focus (go_simp; done)); intro K hK; go_simp; refine hK _ ?_; clear hK K) | (refine wpLoose_farithG ?_ _ _ _ _ _ rfl rfl _ _ _ rfl rfl ?_; (focus (go_simp; done)); intro _ _) | (refine wpLoose_valG ?_ ?_ (fun w1 hw1 => ?_) (fun K hK => ?_); (focus (go_simp; done)); rotate_left; (focus (obtain ⟨nq, rfl⟩ := hw1; go_simp; first | done | rfl)); go_simp; refine hK _ ?_; clear hK K) | fail))
    refine wpLoose_callG ?_ 59 #[.pointer (some ⟨p, 0, none⟩)] (fun w1 => ?_) (fun w1 hw1 => ?_) (fun v1 hv1 => ?_)
    · go_simp
    · go_simp
    · obtain ⟨nq, rfl⟩ := hw1
      refine (IV.out _).mono ?_
      rintro e w2 ⟨rfl, n, rfl⟩
      exact ⟨_, rfl, ⟨fun _ => by rw [HV.out], fun h => absurd h (by decide)⟩, n, rfl⟩
    obtain rfl : v1 = .bool false := by rw [hv1.1 rfl, HV.out]
    clear hv1
    repeat ((with_reducible refine wpLoose_cons ?_); (first | ((with_reducible refine wpLoose_skip ?_ ?_); (focus (go_simp; done)); intro K hK; go_simp; refine hK _ ?_; clear hK K) | (refine wpLoose_farithG ?_ _ _ _ _ _ rfl rfl _ _ _ rfl rfl ?_; (focus (go_simp; done)); intro _ _) | (refine wpLoose_valG ?_ ?_ (fun w1 hw1 => ?_) (fun K hK => ?_); (focus (go_simp; done)); rotate_left; (focus (obtain ⟨nq, rfl⟩ := hw1; go_simp; first | done | rfl)); go_simp; refine hK _ ?_; clear hK K) | fail))
    (refine wpLoose_nil ?_; rintro _ ⟨nq, rfl⟩)
    go_wp2
    go_ret
    exact ⟨ret_b E.out, _, rfl⟩
  · have NN := PlN.ofV hv
    obtain ⟨bb, hbb⟩ : ∃ bb, (decide (0 ≤ i) && decide (i ≤ (r.W.length : Int) - 1)) = bb := ⟨_, rfl⟩
    have E : Hid (okC r i = bb) := Lib.hid (by
      unfold okC
      rw [hv, ← hbb, Bool.true_and]
      congr 1
      exact decide_eq_decide.2 (by omega))
    rw [hv] at IV
    have HV := Lib.hid hv
    have hn := NN.xy
    have n1 := NN.p
    have n9 := NN.q
    clear h A hv NN
    generalize r.W.length = n at *
    have HB := Lib.hid hbb
    clear hbb
    go_enter Try.func70, Try.ntmps70
    go_wp2
    refine wp_region_loose (SgH r bb) (by kernel_rfl) (by kernel_rfl) ?_
    try simp only [List.append]
    repeat ((with_reducible refine wpLoose_cons ?_); (first | ((with_reducible refine wpLoose_skip ?_ ?_); (focus (go_simp; done)); intro K hK; go_simp; refine hK _ ?_; clear hK K) | (refine wpLoose_farithG ?_ _ _ _ _ _ rfl rfl _ _ _ rfl rfl ?_; (focus (go_simp; done)); intro _ _) | (refine wpLoose_valG ?_ ?_ (fun w1 hw1 => ?_) (fun K hK => ?_); (focus (go_simp; done)); rotate_left; (focus (obtain ⟨nq, rfl⟩ := hw1; go_simp; first | done | rfl)); go_simp; refine hK _ ?_; clear hK K) | fail))
    refine wpLoose_callG ?_ 59 #[.pointer (some ⟨p, 0, none⟩)] (fun w1 => ?_) (fun w1 hw1 => ?_) (fun v1 hv1 => ?_)
    · go_simp
    · go_simp
    · obtain ⟨nq, rfl⟩ := hw1
      refine (IV.out _).mono ?_
      rintro e w2 ⟨rfl, n, rfl⟩
      exact ⟨_, rfl, ⟨fun _ => by rw [HV.out], fun h => absurd h (by decide)⟩, n, rfl⟩
    obtain rfl : v1 = .bool true := by rw [hv1.1 rfl, HV.out]
    clear hv1
    repeat ((with_reducible refine wpLoose_cons ?_); (first | ((with_reducible refine wpLoose_skip ?_ ?_); (focus (go_simp; done)); intro K hK; go_simp; refine hK _ ?_; clear hK K) | (refine wpLoose_farithG ?_ _ _ _ _ _ rfl rfl _ _ _ rfl rfl ?_; (focus (go_simp; done)); intro _ _) | (refine wpLoose_valG ?_ ?_ (fun w1 hw1 => ?_) (fun K hK => ?_); (focus (go_simp; done)); rotate_left; (focus (obtain ⟨nq, rfl⟩ := hw1; go_simp; first | done | rfl)); go_simp; refine hK _ ?_; clear hK K) | fail))
    refine wpLoose_callG ?_ 32 #[.int .i64 i, .int .i64 0, .int .i64 ((n : Int) - 1)] (fun w1 => ?_) (fun w1 hw1 => ?_) (fun v1 hv1 => ?_)
    · go_simp
    · first | (go_simp; done) | (go_simp; rw [IntWalk.i64_in (n : Int) (by omega), IntWalk.i64_in ((n : Int) - 1) (by omega)])
    · refine (inb_any i 0 ((n : Int) - 1) bb HB.out w1).mono ?_
      rintro e w2 ⟨rfl, n, rfl⟩
      exact ⟨_, rfl, ⟨fun h => absurd h (by decide), fun _ => rfl⟩, n, rfl⟩
    obtain rfl := hv1.2 rfl
    clear hv1
    repeat ((with_reducible refine wpLoose_cons ?_); (first | ((with_reducible refine wpLoose_skip ?_ ?_); (focus (go_simp; done)); intro K hK; go_simp; refine hK _ ?_; clear hK K) | (refine wpLoose_farithG ?_ _ _ _ _ _ rfl rfl _ _ _ rfl rfl ?_; (focus (go_simp; done)); intro _ _) | (refine wpLoose_valG ?_ ?_ (fun w1 hw1 => ?_) (fun K hK => ?_); (focus (go_simp; done)); rotate_left; (focus (obtain ⟨nq, rfl⟩ := hw1; go_simp; first | done | rfl)); go_simp; refine hK _ ?_; clear hK K) | fail))
    (refine wpLoose_nil ?_; rintro _ ⟨nq, rfl⟩)
    go_wp2
    go_ret
    exact ⟨ret_b E.out, _, rfl⟩

end Go.Proofs.Ythfkmcpajookaaa

/- What flows into a cell of a plate: both tops, and the law. -/
namespace Go.Proofs.Ythfkmcpajookaaa
open Go.RowKit
set_option linter.unusedVariables false

def fV (r : PL) (k : Nat) : Nat := inS r r.X.toNat (r.X.toNat * (r.Y.toNat - 1)) k 4
theorem specFlowV_any (r : PL) (n k : Nat) (a b c d : Value) (p : Nat) (w : World) (A : Cells w p (pvs r a b c d)) (h : PRow w a b c d r) (hl : PlN r n) (hk : k < n) : Calls Try.prog 78 #[.pointer (some ⟨p, 0, none⟩), .int .i64 (k : Int)] w (GivB (ifF (fV r k)) (fin .f32 (fV r k)) w) :=
  specInto_any _ _ _ n k a b c d r p w A h hl (Sd.std hl) rfl hk
theorem implFlowV_any (r : PL) (n k : Nat) (a b c d : Value) (w : World) (h : PRow w a b c d r) (hl : PlN r n) (hk : k < n) : Calls Try.prog 67 #[.agg #[.int .i64 r.X, .int .i64 r.Y, a, b, c, d], .int .i64 (k : Int)] w (FlP (fV r k) w) :=
  flowInto_any _ _ _ n k a b c d r w h hl (Sd.std hl) rfl hk

end Go.Proofs.Ythfkmcpajookaaa

/- A float operation that stands behind a guard, as the walk meets it. -/
namespace Go.Proofs.Ythfkmcpajookaaa
open Go

theorem upon_fa {P : Program} {o : Oper} {a : Act} {K : Act → World → Prop} {Q : Exit → Act → World → Prop} {w : World} (op : BinOp) (hop : isArith op = true) (t : TypeId) (k : FloatKind) (m n : Nat)
    (h : ∀ r j, FR op k m n r → Oper.upon P o a K Q ((Result.ok (Value.float k r) (w.drewN j)).andThen fun v w' => .ok (Next.value v) w')) :
    Oper.upon P o a K Q (((binOp op t (.float k m) (.float k n)).run P w).andThen fun v w' => .ok (Next.value v) w') := by
  obtain ⟨r, j, hr, hw⟩ := run_farith (P := P) op hop t k m n w
  rw [hw]
  exact h r j hr
theorem upon_up {P : Program} {o : Oper} {a : Act} {K : Act → World → Prop} {Q : Exit → Act → World → Prop} {w : World} {S D : TypeId} (hs : P.underlying S = some (.float .f32)) (hd : P.underlying D = some (.float .f64)) (m : Nat)
    (h : ∀ r j, UR m r → Oper.upon P o a K Q ((Result.ok (Value.float .f64 r) (w.drewN j)).andThen fun v w' => .ok (Next.value v) w')) :
    Oper.upon P o a K Q (((convert S D (.float .f32 m)).run P w).andThen fun v w' => .ok (Next.value v) w') := by
  obtain ⟨r, j, hr, hw⟩ := run_up hs hd m w
  rw [hw]
  exact h r j hr
end Go.Proofs.Ythfkmcpajookaaa

/- Numbers at least 0, at most 1, shares: words alone. -/
namespace Go.Proofs.Ythfkmcpajookaaa
open Go.RowKit
set_option linter.unusedVariables false

theorem fopl' (op : BinOp) (k : FloatKind) (x y : Nat) : fop op k (cn k x) y = fop op k x y := by
  unfold fop
  rw [← floatBits_cn op k (cn k x) y, cn_cn, floatBits_cn]
theorem fopr' (op : BinOp) (k : FloatKind) (x y : Nat) : fop op k x (cn k y) = fop op k x y := by
  unfold fop
  rw [← floatBits_cn op k x (cn k y), cn_cn, floatBits_cn]
theorem fop_cc (op : BinOp) (k : FloatKind) (x y : Nat) : cn k (fop op k x y) = fop op k x y := by
  unfold fop
  cases h : floatBits op k x y with
  | none => exact cn_of_nan (nn_qn k)
  | some r => exact cn_of_num (floatBits_num h)
/-- a goal at which the walk stands -/
structure Stop (p : Prop) : Prop where
  out : p
theorem Stop.go {p : Prop} (h : Stop p) : p := h.out
/-- at least 0 -/
def ge0 (x : Nat) : Bool := FloatKind.f32.format.order x 0 == some .gt || FloatKind.f32.format.order x 0 == some .eq
/-- from a to b -/
def geN (x a : Nat) : Bool := FloatKind.f32.format.order x a == some .gt || FloatKind.f32.format.order x a == some .eq
def leN (x b : Nat) : Bool := FloatKind.f32.format.order x b == some .lt || FloatKind.f32.format.order x b == some .eq
def wth (x a b : Nat) : Bool := geN x a && leN x b
/-- a share -/
def shr (x : Nat) : Bool := geN x 0 && leN x 1065353216
/-- a shine -/
def shn (x : Nat) : Bool := gt0 x && leN x 1065353216
/-- finite and at least 0 -/
def lst (x : Nat) : Bool := fin .f32 x && geN x 0
theorem gt0_ge {x : Nat} (h : gt0 x = true) : geN x 0 = true := by unfold geN; unfold gt0 at h; rw [h]; rfl
theorem shn_shr (x : Nat) : (shr x && gt0 x) = shn x := by
  unfold shr shn
  cases h : gt0 x
  · simp
  · rw [gt0_ge h]; simp
/-- a bool; the world is the same -/
def BolS (b : Bool) (w : World) (e : Ending) (w' : World) : Prop := e = .returned (.bool b) ∧ w = w'
end Go.Proofs.Ythfkmcpajookaaa

/- Numbers that are at least 0: the specification. -/
namespace Go.Proofs.Ythfkmcpajookaaa
open Go.RowKit
set_option linter.unusedVariables false

theorem specLeast_any (x : Nat) (w : World) : Calls Try.prog 63 #[.float .f32 x] w (Bol (lst x) w) := by
  unfold lst
  cases B0 : fin .f32 x
  · skip
    have H0 := Lib.hid B0
    clear B0
    go_enter Try.func63, Try.ntmps63
    go_wp2_with fail
    refine (specFinite_any x _).mono ?_
    rw [H0.out]
    rintro e w' ⟨rfl, n, rfl⟩
    go_wp2
    go_ret
    exact ⟨ret_bb (by simp), _, rfl⟩
  · skip
    have H0 := Lib.hid B0
    clear B0
    go_enter Try.func63, Try.ntmps63
    go_wp2_with fail
    refine (specFinite_any x _).mono ?_
    rw [H0.out]
    rintro e w' ⟨rfl, n, rfl⟩
    go_wp2
    go_ret
    exact ⟨ret_bb (by rw [Bool.true_and]; rfl), _, rfl⟩
end Go.Proofs.Ythfkmcpajookaaa
