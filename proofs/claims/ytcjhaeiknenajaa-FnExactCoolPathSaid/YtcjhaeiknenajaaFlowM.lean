/- What flows into a cell of a plate, in numbers. -/
import Derived.Test.YtcjhaeiknenajaaBeside
import Derived.Test.YtcjhaeiknenajaaZero
namespace Go.Proofs.Ytcjhaeiknenajaa
open Go.RowKit
set_option linter.unusedVariables false

/-- how much passes between two cells -/
def psF (r : PL) (k m : Nat) : Nat := fop .quo .f32 (fop .mul .f32 (cn .f32 1073741824) (fop .mul .f32 (cn .f32 (r.E.getD k 0)) (cn .f32 (r.E.getD m 0)))) (fop .add .f32 (cn .f32 (r.E.getD k 0)) (cn .f32 (r.E.getD m 0)))
/-- what flows from one to another -/
def flF (r : PL) (k m : Nat) : Nat := fop .mul .f32 (psF r k m) (fop .sub .f32 (cn .f32 (r.W.getD m 0)) (cn .f32 (r.W.getD k 0)))
/-- what flows in at a side -/
def tF (r : PL) (x z k j : Nat) : Nat := bif decide (0 ≤ nbr x z k j) then flF r k (nbr x z k j).toNat else 0
/-- the sum of the first ones -/
def inS (r : PL) (x z k : Nat) : Nat → Nat
  | 0 => 0
  | j + 1 => fop .add .f32 (inS r x z k j) (tF r x z k j)
theorem inS_cz (r : PL) (x z k : Nat) : ∀ j, Cz (inS r x z k j)
  | 0 => Cz.zero
  | j + 1 => (inS_cz r x z k j).add _
theorem inS_skip {r : PL} {x z k j : Nat} (h : ¬ 0 ≤ nbr x z k j) : inS r x z k (j + 1) = inS r x z k j := by
  show fop .add .f32 (inS r x z k j) (tF r x z k j) = _
  have : tF r x z k j = 0 := by unfold tF; rw [decide_eq_false h]; rfl
  rw [this]
  exact (inS_cz r x z k j).add0
theorem inS_take {r : PL} {x z k j m : Nat} (h : nbr x z k j = (m : Int)) : inS r x z k (j + 1) = fop .add .f32 (inS r x z k j) (flF r k m) := by
  show fop .add .f32 (inS r x z k j) (tF r x z k j) = _
  have : tF r x z k j = flF r k m := by unfold tF; rw [h, decide_eq_true (by omega)]; rfl
  rw [this]
theorem tF_no {r : PL} {x z k j : Nat} (h : ¬ 0 ≤ nbr x z k j) : tF r x z k j = 0 := by unfold tF; rw [decide_eq_false h]; rfl
theorem tF_yes {r : PL} {x z k j m : Nat} (h : nbr x z k j = (m : Int)) : tF r x z k j = flF r k m := by unfold tF; rw [h, decide_eq_true (by omega)]; rfl
/-- where too much passes, what flows is not finite -/
theorem inS_nf {r : PL} {x z k j m : Nat} (hj : j < 4) (h : nbr x z k j = (m : Int)) (hf : fin .f32 (psF r k m) = false) : fin .f32 (inS r x z k 4) = false := by
  have h1 : fin .f32 (inS r x z k (j + 1)) = false := by
    rw [inS_take h]
    cases e : fin .f32 (fop .add .f32 (inS r x z k j) (flF r k m))
    · rfl
    · have := (add_fin2 e).2
      unfold flF at this
      rw [mul_fin this] at hf
      cases hf
  have step : ∀ i, fin .f32 (inS r x z k i) = false → fin .f32 (inS r x z k (i + 1)) = false := fun i hi => by
    show fin .f32 (fop .add .f32 (inS r x z k i) (tF r x z k i)) = false
    cases e : fin .f32 (fop .add .f32 (inS r x z k i) (tF r x z k i))
    · rfl
    · rw [(add_fin2 e).1] at hi; cases hi
  have all : ∀ d, fin .f32 (inS r x z k (j + 1 + d)) = false := fun d => by
    induction d with
    | zero => exact h1
    | succ d ih => exact step (j + 1 + d) ih
  have h4 := all (3 - j)
  rw [show j + 1 + (3 - j) = 4 by omega] at h4
  exact h4
theorem cn_self_fop {x : Nat} (op : BinOp) (a b : Nat) (h : x = fop op .f32 a b) : cn .f32 x = x := by rw [h, pcn_fop]

/-- the program's: how much passes -/
theorem implPass_any (r : PL) (a c d : Value) (b1 o1 k1 n k m : Nat) (w : World) (n9 : n ≤ 144) (hk : k < n) (hm : m < n) (hE : ∀ i, i < n → w.cell? ⟨b1, o1 + i, none⟩ = some (.float .f32 (r.E.getD i 0))) :
    Calls Try.prog 73 #[.agg #[.int .i64 r.X, .int .i64 r.Y, a, ps b1 o1 n k1, c, d], .int .i64 (k : Int), .int .i64 (m : Int)] w (FlP (psF r k m) w) := by
  have z1 := hE k hk
  have z2 := hE m hm
  have P0 : Hid (psF r k m = fop .quo .f32 (fop .mul .f32 (cn .f32 1073741824) (fop .mul .f32 (cn .f32 (r.E.getD k 0)) (cn .f32 (r.E.getD m 0)))) (fop .add .f32 (cn .f32 (r.E.getD k 0)) (cn .f32 (r.E.getD m 0)))) := Lib.hid rfl
  have l1 : b1 < w.heap.size := cell_lt z1
  generalize r.E.getD k 0 = e1 at *
  generalize r.E.getD m 0 = e2 at *
  generalize psF r k m = S at *
  have hi : (0 : Int) ≤ (k : Int) := by omega
  have hi' : (k : Int) < (n : Int) := by omega
  have hj : (0 : Int) ≤ (m : Int) := by omega
  have hj' : (m : Int) < (n : Int) := by omega
  clear hE
  go_enter Try.func73, Try.ntmps73
  go_wp2
  go_region
  go_wp2_with (first | (refine wpList_farith rfl _ _ _ _ _ rfl rfl _ _ _ rfl rfl ?_; intro _ _ _))
  go_ret
  rename_i h1 _ _ h2 _ _ h3 _ _ h4
  exact ⟨_, by rw [h4.1, h2.1, h1.1, h3.1, P0.out], rfl, (by repeat (first | exact Below.refl _ _ | refine Below.setCell ?_ (by first | exact Nat.le_refl _ | (simp; done) | (simp; omega) | omega) _ | refine below_drewN ?_ _ | refine Below.alloc ?_ (by first | exact Nat.le_refl _ | (simp; done) | (simp; omega) | omega) _))⟩
/-- the specification's -/
theorem specPass_any (r : PL) (a c d : Value) (b1 o1 k1 n k m p : Nat) (w : World) (A : Cells w p (pvs r a (ps b1 o1 n k1) c d)) (n9 : n ≤ 144) (hk : k < n) (hm : m < n) (hE : ∀ i, i < n → w.cell? ⟨b1, o1 + i, none⟩ = some (.float .f32 (r.E.getD i 0))) :
    Calls Try.prog 68 #[.pointer (some ⟨p, 0, none⟩), .int .i64 (k : Int), .int .i64 (m : Int)] w fun e w' => ∃ s, cn .f32 s = psF r k m ∧ e = .returned (.float .f32 s) ∧ ∃ n, w' = w.drewN n := by
  have z1 := hE k hk
  have z2 := hE m hm
  have c3 := A.at 3 rfl
  have P0 : Hid (psF r k m = fop .quo .f32 (fop .mul .f32 (cn .f32 1073741824) (fop .mul .f32 (cn .f32 (r.E.getD k 0)) (cn .f32 (r.E.getD m 0)))) (fop .add .f32 (cn .f32 (r.E.getD k 0)) (cn .f32 (r.E.getD m 0)))) := Lib.hid rfl
  generalize r.E.getD k 0 = e1 at *
  generalize r.E.getD m 0 = e2 at *
  generalize psF r k m = S at *
  have hi : (0 : Int) ≤ (k : Int) := by omega
  have hi' : (k : Int) < (n : Int) := by omega
  have hj : (0 : Int) ≤ (m : Int) := by omega
  have hj' : (m : Int) < (n : Int) := by omega
  clear hE A
  go_enter Try.func68, Try.ntmps68
  go_wp2
  refine wp_region_loose (fun _ _ _ => True) (by kernel_rfl) (by kernel_rfl) ?_
  repeat (first | (refine wpLoose_farith rfl _ _ _ _ _ rfl rfl _ _ _ rfl rfl ?_; intro _ _) | (refine wpLoose_valK rfl ?_ (fun w1 hw1 => ?_) (fun K hK => ?_); rotate_left; (focus (obtain ⟨nq, rfl⟩ := hw1; go_simp; first | done | rfl)); go_simp; refine hK _ ?_; clear hK K))
  (refine wpLoose_nil ?_; rintro _ ⟨nq, rfl⟩)
  go_wp2
  refine wp_region_loose (fun _ _ _ => True) (by kernel_rfl) (by kernel_rfl) ?_
  repeat (first | (refine wpLoose_farith rfl _ _ _ _ _ rfl rfl _ _ _ rfl rfl ?_; intro _ _) | (refine wpLoose_valK rfl ?_ (fun w1 hw1 => ?_) (fun K hK => ?_); rotate_left; (focus (obtain ⟨nq, rfl⟩ := hw1; go_simp; first | done | rfl)); go_simp; refine hK _ ?_; clear hK K))
  (refine wpLoose_nil ?_; rintro _ ⟨nq, rfl⟩)
  go_wp2
  go_ret
  rename_i h1 _ _ h2 _ h3 _ h4
  exact ⟨_, by first | rw [h4.1, h2.1, h3.1, h1.1, P0.out] | rw [h4.1, h3.1, h2.1, h1.1, P0.out], rfl, _, by first | rfl | rw [World.drewN_drewN]⟩
end Go.Proofs.Ytcjhaeiknenajaa
