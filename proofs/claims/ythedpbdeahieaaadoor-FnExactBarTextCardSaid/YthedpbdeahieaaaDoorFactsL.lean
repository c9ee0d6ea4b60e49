/- Drawn regions that make slices by literals: the fact that a slot holds such a slice. -/
import Derived.Test.YthedpbdeahieaaaDoorFacts2
namespace Go.Proofs.YthedpbdeahieaaaDoor
open Go.RowKit
set_option linter.unusedVariables false

/-- it is a slice of n elements in a block of its own, with these cells -/
def fLit (n : Nat) (vs : List Value) : Fct := ⟨fun v w => ∃ p, v = .slice (some ⟨p, 0, none⟩) n n ∧ Cells w p vs, fun _ => Pers.ex fun _ => Pers.and (Pers.const _) (Pers.cells _ _)⟩
/-- the same, its one element a slice by itself -/
def fLit1 (n : Nat) (vs : List Value) : Fct := ⟨fun v w => ∃ q p, v = .slice (some ⟨q, 0, none⟩) 1 1 ∧ Cells w q [.slice (some ⟨p, 0, none⟩) n n] ∧ Cells w p vs, fun _ => Pers.ex fun _ => Pers.ex fun _ => Pers.and (Pers.const _) (Pers.and (Pers.cells _ _) (Pers.cells _ _))⟩
theorem lit_of {n p : Nat} {vs : List Value} {w : World} (h : (fLit n vs).1 (.slice (some ⟨p, 0, none⟩) n n) w) : Cells w p vs := by
  obtain ⟨p', e, hc⟩ := h
  cases e
  exact hc
theorem lit1_of {n q : Nat} {vs : List Value} {w : World} (h : (fLit1 n vs).1 (.slice (some ⟨q, 0, none⟩) 1 1) w) : ∃ p, Cells w q [.slice (some ⟨p, 0, none⟩) n n] ∧ Cells w p vs := by
  obtain ⟨q', p, e, hq, hp⟩ := h
  cases e
  exact ⟨p, hq, hp⟩
theorem fact_needL {l : List (Nat × Fct)} {ops : Array Oper} {o : Oper} {E : SEnv} {w : World} {d : Nat} {φ : Fct} {v : Value} (hT : TS.findB l d = some φ) (hN : FNeed (TS l) ops o E w) (hd : (o.looksAt ops).contains d = true) (hE : E d v) : φ.1 v w :=
  TS.get hT (hN d v (by simpa using hd) hE)

section
variable {P : Program} {ops : Array Oper} {C : World → Prop} {l : List (Nat × Fct)} {Q : SEnv → Act → Prop} {a : Act} {o : Oper} {rest : List Oper} {E : SEnv}
theorem wpF_lit (hgd : o.guard = none) (d : Nat) (hd : o.dst = some d) (n : Nat) (vs : List Value) (t : TypeId) (hT : TS.findB l d = some (fLit n vs))
    (hv : ∀ w, (execOp a.eval o).run P w = .ok (.value (.slice (some ⟨w.heap.size, 0, none⟩) n n)) (w.alloc (.cells vs.toArray t)))
    (h : ∀ p : Nat, wpFacts P ops C (TS l) Q rest (fun x u => E x u ∨ (x = d ∧ u = .slice (some ⟨p, 0, none⟩) n n)) (a.put o.dst (.slice (some ⟨p, 0, none⟩) n n))) : wpFacts P ops C (TS l) Q (o :: rest) E a :=
  wpFacts_some hgd d hd (fun w hC _ => ⟨_, _, below_al1 w _, TS.mk hT ⟨w.heap.size, rfl, Cells.made w vs t⟩, hv w⟩) (fun v ⟨_, hv⟩ => by
    obtain ⟨p, rfl, _⟩ := TS.get hT hv
    exact h p)
theorem wpF_lit1 (hgd : o.guard = none) (d : Nat) (hd : o.dst = some d) (n p : Nat) (vs : List Value) (t : TypeId) (hT : TS.findB l d = some (fLit1 n vs)) (hp : ∀ w, C w → FNeed (TS l) ops o E w → Cells w p vs)
    (hv : ∀ w, (execOp a.eval o).run P w = .ok (.value (.slice (some ⟨w.heap.size, 0, none⟩) 1 1)) (w.alloc (.cells [Value.slice (some ⟨p, 0, none⟩) n n].toArray t)))
    (h : ∀ q : Nat, wpFacts P ops C (TS l) Q rest (fun x u => E x u ∨ (x = d ∧ u = .slice (some ⟨q, 0, none⟩) 1 1)) (a.put o.dst (.slice (some ⟨q, 0, none⟩) 1 1))) : wpFacts P ops C (TS l) Q (o :: rest) E a :=
  wpFacts_some hgd d hd (fun w hC hN => ⟨_, _, below_al1 w _, TS.mk hT ⟨w.heap.size, p, rfl, Cells.made w _ t, (hp w hC hN).al _⟩, hv w⟩) (fun v ⟨_, hv⟩ => by
    obtain ⟨q, _, rfl, _⟩ := TS.get hT hv
    exact h q)
end
end Go.Proofs.YthedpbdeahieaaaDoor
