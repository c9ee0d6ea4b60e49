/- Rods of a call's own: four lists apart, or side by side in one block; the laws' marks on them; what functions over rods hand back. -/
import Derived.Test.YtkbdidpodcclfaaRodO
import Derived.Test.YtkbdidpodcclfaaMarkR
namespace Go.Proofs.Ytkbdidpodcclfaa
open Go.RowKit
set_option linter.unusedVariables false

/-- the numbers of a rod in one block -/
def rlF (n : Nat) (r : RL) (i : Nat) : Nat := if i < n then r.W.getD i 0 else if i < 2 * n then r.E.getD (i - n) 0 else if i < 3 * n then r.H.getD (i - 2 * n) 0 else r.T.getD (i - 3 * n) 0
theorem rlF_row {w : World} {g n : Nat} {r : RL} (h : w.rowIs g 22 (4 * n) (fun i => .float .f32 (rlF n r i))) (hn : n ≤ 1000) (h0 : r.W.length = n) (h1 : r.E.length = n) (h2 : r.H.length = n) (h3 : r.T.length = n) :
    RRow w (.slice (some ⟨g, 0, none⟩) n n) (.slice (some ⟨g, n, none⟩) n n) (.slice (some ⟨g, 2 * n, none⟩) n n) (.slice (some ⟨g, 3 * n, none⟩) n n) r := by
  have hx : maxLen = 9223372036854775807 := rfl
  have key : ∀ (o : Nat) (zs : List Nat), zs.length = n → (∀ i, i < n → rlF n r (o + i) = zs.getD i 0) → o + n ≤ 4 * n → FRow w (.slice (some ⟨g, o, none⟩) n n) zs := by
    intro o zs hz hf ho
    refine .inr ⟨g, o, n, by rw [hz], by rw [hz]; omega, fun i hi => ?_⟩
    rw [hz] at hi
    rw [h.cell (by omega), hf i hi]
  refine ⟨key 0 r.W h0 (fun i hi => ?_) (by omega), key n r.E h1 (fun i hi => ?_) (by omega), key (2 * n) r.H h2 (fun i hi => ?_) (by omega), key (3 * n) r.T h3 (fun i hi => ?_) (by omega)⟩
  all_goals
    unfold rlF
    repeat' split
    all_goals first | omega | (congr 1; omega)
/-- four lists side by side in one block from h to below u -/
def RodB (h u : Nat) (w : World) (a b c d : Value) (r : RL) : Prop :=
  ∃ g n, h ≤ g ∧ g < u ∧ n ≤ 48 ∧ (r.W.length = n ∧ r.E.length = n ∧ r.H.length = n ∧ r.T.length = n) ∧ (a = .slice (some ⟨g, 0, none⟩) n n ∧ b = .slice (some ⟨g, n, none⟩) n n ∧ c = .slice (some ⟨g, 2 * n, none⟩) n n ∧ d = .slice (some ⟨g, 3 * n, none⟩) n n) ∧ w.rowIs g 22 (4 * n) (fun i => .float .f32 (rlF n r i))
def RodX (h u : Nat) (w : World) (a b c d : Value) (r : RL) : Prop := RodU h u w a b c d r ∨ RodB h u w a b c d r
theorem RodX.kept {h u : Nat} {w w' : World} {a b c d : Value} {r : RL} (H : RodX h u w a b c d r) (hb : Below w.heap.size w w') : RodX h u w' a b c d r := by
  rcases H with H | ⟨g, n, h1, h2, h3, h4, h5, h6⟩
  · exact .inl (H.kept hb)
  · exact .inr ⟨g, n, h1, h2, h3, h4, h5, rowIs_below h6 hb⟩
theorem RodX.tur {h u : Nat} {S : Nat → Prop} {w w' : World} {a b c d : Value} {r : RL} (H : RodX h u w a b c d r) (t : Tur S w w') (hS : ∀ j, h ≤ j → ¬ S j) : RodX h u w' a b c d r := by
  rcases H with ⟨i0, i1, i2, i3, i4, g0, g1, g2, g3, g4, g5, A, B, C, D⟩ | ⟨g, n, h1, h2, h3, h4, h5, h6⟩
  · exact .inl ⟨i0, i1, i2, i3, i4, g0, g1, g2, g3, g4, g5, A.tur t (fun j _ _ => hS j (by omega)), B.tur t (fun j _ _ => hS j (by omega)), C.tur t (fun j _ _ => hS j (by omega)), D.tur t (fun j _ _ => hS j (by omega))⟩
  · exact .inr ⟨g, n, h1, h2, h3, h4, h5, t.row h6 (hS g h1)⟩
theorem RodX.rrow {h u : Nat} {w : World} {a b c d : Value} {r : RL} (H : RodX h u w a b c d r) (hl : r.size ≤ 1048576) : RRow w a b c d r := by
  rcases H with H | ⟨g, n, h1, h2, h3, ⟨l0, l1, l2, l3⟩, ⟨rfl, rfl, rfl, rfl⟩, h6⟩
  · exact H.rrow hl
  · exact rlF_row h6 (by omega) l0 l1 l2 l3
theorem RodX.shapes {h u : Nat} {w : World} {a b c d : Value} {r : RL} (H : RodX h u w a b c d r) : (∃ x k, a = .slice x r.W.length k) ∧ (∃ x k, b = .slice x r.E.length k) ∧ (∃ x k, c = .slice x r.H.length k) ∧ ∃ x k, d = .slice x r.T.length k := by
  rcases H with H | ⟨g, n, h1, h2, h3, ⟨l0, l1, l2, l3⟩, ⟨rfl, rfl, rfl, rfl⟩, h6⟩
  · exact H.shapes
  · rw [l0, l1, l2, l3]
    exact ⟨⟨_, _, rfl⟩, ⟨_, _, rfl⟩, ⟨_, _, rfl⟩, ⟨_, _, rfl⟩⟩
theorem rlF_mks {n : Nat} {r : RL} (h0 : r.W.length = n) (h1 : r.E.length = n) (h2 : r.H.length = n) (h3 : r.T.length = n) {i : Nat} (hi : i < 4 * n) : rlF n (mksR r) i = fb (1 + i) := by
  have key : ∀ k j, j < n → (mksK k n).getD j 0 = fb (k + j) := fun k j hj => by simp [mksK, List.getD_eq_getElem?_getD, hj]
  unfold rlF mksR
  simp only [h0, h1, h2, h3]
  repeat' split
  · exact key 1 i (by omega)
  · rw [key _ _ (by omega)]; congr 1; omega
  · rw [key _ _ (by omega)]; congr 1; omega
  · rw [key _ _ (by omega)]; congr 1; omega
theorem markRodX {h u : Nat} {a b c d : Value} {r : RL} {w : World} (H : RodX h u w a b c d r) (hu : u ≤ w.heap.size) (hl : r.size ≤ 300) :
    Calls Try.prog 14 #[.agg #[a, b, c, d], .int .i64 1] w fun e w' => e = .returned (.int .i64 ((1 + r.size : Nat) : Int)) ∧ RodX h u w' a b c d (mksR r) ∧ Tur (Rg h u) w w' := by
  rcases H with H | ⟨g, n, h1, h2, h3, ⟨l0, l1, l2, l3⟩, ⟨rfl, rfl, rfl, rfl⟩, h6⟩
  · exact (markRodU H hu hl).mono fun e w' ⟨he, hU, ht⟩ => ⟨he, .inl hU, ht⟩
  · refine (markRod_blk g n _ w h6 h3).mono ?_
    rintro e w' ⟨rfl, hr, ht⟩
    refine ⟨by unfold RL.size; rw [l0, l1, l2, l3]; congr 3; omega, .inr ⟨g, n, h1, h2, h3, by simp [mksR, mksK_length, l0, l1, l2, l3], ⟨rfl, rfl, rfl, rfl⟩, hr.congr fun i hi => by rw [rlF_mks l0 l1 l2 l3 hi]⟩, ?_⟩
    exact ⟨ht.os, ht.tape, ht.output, ht.size, fun k hk hs => ht.block k hk (fun e => hs (by subst e; exact ⟨h1, h2⟩))⟩
theorem heldRodX {h u : Nat} {a b c d : Value} {r : RL} {w : World} (H : RodX h u w a b c d (mksR r)) (hu : u ≤ w.heap.size) (hl : r.size ≤ 300) :
    Calls Try.prog 15 #[.agg #[a, b, c, d], .int .i64 1] w fun e w' => e = .returned (.int .i64 ((1 + r.size : Nat) : Int)) ∧ Below w.heap.size w w' := by
  rcases H with H | ⟨g, n, h1, h2, h3, ⟨l0, l1, l2, l3⟩, ⟨rfl, rfl, rfl, rfl⟩, h6⟩
  · exact heldRodU H hu hl
  · have k0 : r.W.length = n := by simpa [mksR, mksK_length] using l0
    have k1 : r.E.length = n := by simpa [mksR, mksK_length] using l1
    have k2 : r.H.length = n := by simpa [mksR, mksK_length] using l2
    have k3 : r.T.length = n := by simpa [mksR, mksK_length] using l3
    refine (heldRod_blk g n w (h6.congr fun i hi => by rw [rlF_mks k0 k1 k2 k3 hi]) h3).mono ?_
    rintro e w' ⟨rfl, hb⟩
    exact ⟨by unfold RL.size; rw [k0, k1, k2, k3]; congr 3; omega, hb⟩
theorem RodX.nil {h u : Nat} {w : World} (hh : h ≤ u) : RodX h u w (.slice none 0 0) (.slice none 0 0) (.slice none 0 0) (.slice none 0 0) ⟨[], [], [], []⟩ :=
  .inl ⟨u, u, u, u, u, hh, Nat.le_refl _, Nat.le_refl _, Nat.le_refl _, Nat.le_refl _, Nat.le_refl _, .inl ⟨⟨_, _, rfl⟩, rfl⟩, .inl ⟨⟨_, _, rfl⟩, rfl⟩, .inl ⟨⟨_, _, rfl⟩, rfl⟩, .inl ⟨⟨_, _, rfl⟩, rfl⟩⟩
def nilRL : RL := ⟨[], [], [], []⟩
theorem nil_row (w : World) : RRow w (.slice none 0 0) (.slice none 0 0) (.slice none 0 0) (.slice none 0 0) nilRL := ⟨.inl ⟨⟨_, _, rfl⟩, rfl⟩, .inl ⟨⟨_, _, rfl⟩, rfl⟩, .inl ⟨⟨_, _, rfl⟩, rfl⟩, .inl ⟨⟨_, _, rfl⟩, rfl⟩⟩
/-- a rod and a bool, as the specification hands them back -/
def RdB (ok : Bool) (r : RL) (w : World) (e : Ending) (w' : World) : Prop := ∃ a b c d, e = .returned (.tuple #[.agg #[a, b, c, d], .bool ok]) ∧ RRow w' a b c d r ∧ Below w.heap.size w w'
/-- .. the rod lies in memory of its own -/
def RdO (ok : Bool) (r : RL) (w : World) (e : Ending) (w' : World) : Prop := ∃ a b c d, e = .returned (.tuple #[.agg #[a, b, c, d], .bool ok]) ∧ RodX w.heap.size w'.heap.size w' a b c d r ∧ Below w.heap.size w w'
theorem RdB.no {w w' : World} (hb : Below w.heap.size w w') : RdB false nilRL w (.returned (.tuple #[.agg #[.slice none 0 0, .slice none 0 0, .slice none 0 0, .slice none 0 0], .bool false])) w' := ⟨_, _, _, _, rfl, nil_row _, hb⟩
theorem RdO.no {w w' : World} (hb : Below w.heap.size w w') : RdO false nilRL w (.returned (.tuple #[.agg #[.slice none 0 0, .slice none 0 0, .slice none 0 0, .slice none 0 0], .bool false])) w' := ⟨_, _, _, _, rfl, RodX.nil hb.size, hb⟩
end Go.Proofs.Ytkbdidpodcclfaa
