/- What the law on cups in words calls: its contracts where all is valid; fractions in lowest terms. -/
import Derived.Test.YtgcgfnpkkhhkgacCupQ
import Derived.Test.YtgcgfnpkkhhkgacDrawC
namespace Go.Proofs.Ytgcgfnpkkhhkgac
open Go.RowKit
set_option linter.unusedVariables false

theorem mix_yes (m k m' k' : Int) (w : World) (h : mixB m k m' k' = true) : Calls Try.prog 61 #[.agg #[.int .i64 m, .int .i64 k], .agg #[.int .i64 m', .int .i64 k']] w fun e w' => e = .returned (.tuple #[.agg #[.int .i64 (m + m'), .int .i64 (k + k')], .bool true]) ∧ Below w.heap.size w w' :=
  (implMix_any m k m' k' w).mono fun e w' ⟨he, hb⟩ => by rw [h] at he; exact ⟨he, hb⟩
theorem heat_yes (m k d : Int) (w : World) (h : heatB m k d = true) : Calls Try.prog 65 #[.agg #[.int .i64 m, .int .i64 k], .int .i64 d] w fun e w' => e = .returned (.tuple #[.agg #[.int .i64 m, .int .i64 (k + d)], .bool true]) ∧ Below w.heap.size w w' :=
  (implHeat_any m k d w).mono fun e w' ⟨he, hb⟩ => by rw [h] at he; exact ⟨he, hb⟩
theorem heat_no (m k d : Int) (w : World) (h : heatB m k d = false) : Calls Try.prog 65 #[.agg #[.int .i64 m, .int .i64 k], .int .i64 d] w fun e w' => e = .returned (.tuple #[.agg #[.int .i64 0, .int .i64 0], .bool false]) ∧ Below w.heap.size w w' :=
  (implHeat_any m k d w).mono fun e w' ⟨he, hb⟩ => by rw [h] at he; exact ⟨he, hb⟩
theorem vcup_yes (m k : Int) (w : World) (h : vCup m k = true) : Calls Try.prog 64 #[.agg #[.int .i64 m, .int .i64 k]] w fun e w' => e = .returned (.bool true) ∧ Below w.heap.size w w' :=
  (implVCup_any m k w).mono fun e w' ⟨he, hw⟩ => by rw [h] at he; exact ⟨he, by rw [hw]; exact below_al1 _ _⟩
theorem melt_yes (m k v : Int) (w : World) (h : vCup m k = true) (hv : meltV m k = v) : Calls Try.prog 62 #[.agg #[.int .i64 m, .int .i64 k]] w fun e w' => e = .returned (.tuple #[.int .i64 v, .bool true]) ∧ Below w.heap.size w w' :=
  (implMelt_any m k w).mono fun e w' ⟨he, hb⟩ => by rw [h, hv] at he; exact ⟨he, hb⟩
theorem warm_yes (m k p q : Int) (w : World) (h : vCup m k = true) (hp : (warmU m k).tdiv (Int.gcd (warmU m k) m : Int) = p) (hq : m / (Int.gcd (warmU m k) m : Int) = q) :
    Calls Try.prog 63 #[.agg #[.int .i64 m, .int .i64 k]] w fun e w' => e = .returned (.tuple #[.int .i64 p, .int .i64 q, .bool true]) ∧ Below w.heap.size w w' :=
  (implWarmC_any m k w).mono fun e w' ⟨he, hb⟩ => by rw [h] at he; subst hp hq; exact ⟨he, hb⟩

theorem heat_back (m k d : Int) (w : World) (h : heatB m (k + d) (-d) = true) : Calls Try.prog 65 #[.agg #[.int .i64 m, .int .i64 (k + d)], .int .i64 (-d)] w fun e w' => e = .returned (.tuple #[.agg #[.int .i64 m, .int .i64 k], .bool true]) ∧ Below w.heap.size w w' :=
  (heat_yes m (k + d) (-d) w h).mono fun e w' ⟨he, hb⟩ => by rw [show k + d + -d = k from by omega] at he; exact ⟨he, hb⟩

/-- a fraction in lowest terms is the fraction -/
theorem frac_of (u m : Int) (hm : 1 ≤ m) : u.tdiv (Int.gcd u m : Int) * m = u * (m / (Int.gcd u m : Int)) ∧ 1 ≤ m / (Int.gcd u m : Int) ∧ m / (Int.gcd u m : Int) ≤ m ∧ (u.tdiv (Int.gcd u m : Int)).natAbs ≤ u.natAbs := by
  have hg := gcd_pos u m hm
  obtain ⟨u', hu⟩ := Int.gcd_dvd_left u m
  obtain ⟨m', hm'⟩ := Int.gcd_dvd_right u m
  generalize (Int.gcd u m : Int) = g at *
  have e1 : u.tdiv g = u' := by rw [hu]; exact Int.mul_tdiv_cancel_left _ (by omega)
  have e2 : m / g = m' := by rw [hm']; exact Int.mul_ediv_cancel_left _ (by omega)
  refine ⟨?_, Int.le_ediv_of_mul_le (by omega) ?_, Int.ediv_le_self _ (by omega), ?_⟩
  · rw [e1, e2, hm', hu, Int.mul_comm g u', Int.mul_assoc]
  · rw [Int.one_mul]
    exact Int.le_of_dvd (by omega) ⟨m', hm'⟩
  · rw [Int.natAbs_tdiv]
    exact Nat.div_le_self _ _
theorem mul_bd {x y : Int} {A B : Nat} (hx : x.natAbs ≤ A) (hy : y.natAbs ≤ B) : (x * y).natAbs ≤ A * B := by
  rw [Int.natAbs_mul]; exact Nat.mul_le_mul hx hy

/-- more heat melts no less -/
theorem melt_up {m k d : Int} (hm : 1 ≤ m) (hd : 0 ≤ d) : meltV m k ≤ meltV m (k + d) := by
  unfold meltV
  split <;> split <;> (try split) <;> (try split) <;> omega
theorem melt_down {m k d : Int} (hm : 1 ≤ m) (hd : d ≤ 0) : meltV m (k + d) ≤ meltV m k := by
  have := melt_up (k := k + d) (d := -d) hm (by omega)
  rwa [show k + d + -d = k from by omega] at this

/-- whether a list is long -/
theorem long_any (a1 a2 : Option Addr) (n1 c1 n2 c2 : Nat) (w : World) : Calls Try.prog 32 #[.slice a1 n1 c1, .slice a2 n2 c2] w fun e w' => e = .returned (.bool (decide (1048576 < n1) || decide (1048576 < n2))) ∧ w' = w := by
  by_cases h1 : 1048576 < n1
  · go_enter Try.func32, Try.ntmps32
    go_wp2
    go_ret
    exact ⟨by simp, rfl⟩
  · by_cases h2 : 1048576 < n2
    · go_enter Try.func32, Try.ntmps32
      go_wp2
      go_ret
      exact ⟨by simp [h1, h2]; omega, rfl⟩
    · go_enter Try.func32, Try.ntmps32
      go_wp2
      go_ret
      exact ⟨by simp [h1, h2]; omega, rfl⟩

/-- a number from 0 to n - 1, chosen by a byte -/
theorem at_any (a : Option Addr) (c : Nat) (zs : List Int) (i n : Int) (B : Nat) (w : World) (R : Code8 B w a c zs) (hl : zs.length ≤ 1048576) (hi0 : 0 ≤ i) (hi1 : i ≤ 100) (hn0 : 2 ≤ n) (hn1 : n ≤ 1000000) :
    Calls Try.prog 34 #[.slice a zs.length c, .int .i64 i, .int .i64 n] w fun e w' => ∃ x : Int, e = .returned (.int .i64 x) ∧ 0 ≤ x ∧ x < n ∧ w' = w := by
  by_cases h : i < zs.length
  · obtain ⟨b, off, cap, hv, hc⟩ := R.row.cells (by omega)
    obtain ⟨rfl, rfl⟩ : a = some ⟨b, off, none⟩ ∧ c = cap := by injection hv with h1 h2 h3; exact ⟨h1, h3⟩
    obtain ⟨j, rfl⟩ : ∃ j : Nat, i = j := ⟨i.toNat, by omega⟩
    have cb := hc j (by omega)
    have hx := R.bytes j (by omega)
    generalize zs.getD j 0 = x at *
    obtain ⟨hx0, hx1⟩ := hx
    clear hc hv R
    go_enter Try.func34, Try.ntmps34
    go_wp2
    go_ret
    exact ⟨x % n, rfl, Int.emod_nonneg _ (by omega), Int.emod_lt_of_pos _ (by omega), rfl⟩
  · go_enter Try.func34, Try.ntmps34
    go_wp2
    go_ret
    exact ⟨(i * 37 + 11) % n, rfl, Int.emod_nonneg _ (by omega), Int.emod_lt_of_pos _ (by omega), rfl⟩
end Go.Proofs.Ytgcgfnpkkhhkgac
