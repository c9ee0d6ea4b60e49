/- The facts that slots bear, as a list; the steps for them. -/
import Derived.Test.YtkbdidpodcclfaaFacts
namespace Go.Proofs.Ytkbdidpodcclfaa
open Go.RowKit
set_option linter.unusedVariables false

/-- a fact on a value and a world that stays true while nothing that was there turns -/
def Fct := {φ : Value → World → Prop // ∀ v, Pers (φ v)}
def TS : List (Nat × Fct) → Nat → Value → World → Prop
  | [], _, _, _ => True
  | (k, φ) :: l, d, v, w => (d = k → φ.1 v w) ∧ TS l d v w
theorem TS.pers : ∀ (l : List (Nat × Fct)) (d : Nat) (v : Value), Pers (TS l d v)
  | [], _, _ => Pers.true
  | (_, φ) :: l, d, v => fun w w' h hb => ⟨fun e => φ.2 v w w' (h.1 e) hb, TS.pers l d v w w' h.2 hb⟩
def TS.hasB : List (Nat × Fct) → Nat → Bool
  | [], _ => false
  | (k, _) :: l, d => d == k || TS.hasB l d
theorem TS.no : ∀ {l : List (Nat × Fct)} {d : Nat} (_ : TS.hasB l d = false) (v : Value) (w : World), TS l d v w
  | [], _, _, _, _ => trivial
  | (k, φ) :: l, d, h, v, w => by
    simp only [TS.hasB, Bool.or_eq_false_iff, beq_eq_false_iff_ne, ne_eq] at h
    exact ⟨fun e => absurd e h.1, TS.no h.2 v w⟩
def TS.findB : List (Nat × Fct) → Nat → Option Fct
  | [], _ => none
  | (k, φ) :: l, d => if d = k then (if TS.hasB l d then none else some φ) else TS.findB l d
theorem TS.mk : ∀ {l : List (Nat × Fct)} {d : Nat} {φ : Fct} (_ : TS.findB l d = some φ) {v : Value} {w : World} (_ : φ.1 v w), TS l d v w
  | [], _, _, h, _, _, _ => by cases h
  | (k, ψ) :: l, d, φ, h, v, w, hv => by
    unfold TS.findB at h
    split at h
    · rename_i e
      split at h
      · cases h
      · rename_i hb
        cases h
        exact ⟨fun _ => hv, TS.no (by simpa using hb) v w⟩
    · rename_i e
      exact ⟨fun e' => absurd e' e, TS.mk h hv⟩
theorem TS.get : ∀ {l : List (Nat × Fct)} {d : Nat} {φ : Fct} (_ : TS.findB l d = some φ) {v : Value} {w : World} (_ : TS l d v w), φ.1 v w
  | [], _, _, h, _, _, _ => by cases h
  | (k, ψ) :: l, d, φ, h, v, w, hv => by
    unfold TS.findB at h
    split at h
    · rename_i e
      split at h
      · cases h
      · cases h
        exact hv.1 e
    · exact TS.get h hv.2

/-- it is this value -/
def fIs (x : Value) : Fct := ⟨fun v _ => v = x, fun _ => Pers.const _⟩
/-- it points to a block, made since h, with these cells -/
def fBox (h : Nat) (vs : List Value) : Fct := ⟨fun v w => ∃ p, v = .pointer (some ⟨p, 0, none⟩) ∧ h ≤ p ∧ Cells w p vs, fun _ => Pers.ex fun _ => Pers.and (Pers.const _) (Pers.and (Pers.const _) (Pers.cells _ _))⟩
/-- it is a float, up to a not-a-number's bits -/
def fNum (k : FloatKind) (S : Nat) : Fct := ⟨fun v _ => ∃ r, cn k r = S ∧ v = .float k r, fun _ => Pers.const _⟩

theorem fact_of {l : List (Nat × Fct)} {E : SEnv} {w : World} {d : Nat} {φ : Fct} {v : Value} (hT : TS.findB l d = some φ) (hF : Facts (TS l) E w) (hE : E d v) : φ.1 v w := TS.get hT (hF d v hE)
theorem fact_box {l : List (Nat × Fct)} {E : SEnv} {w : World} {d h : Nat} {vs : List Value} {p : Nat} (hT : TS.findB l d = some (fBox h vs)) (hF : Facts (TS l) E w) (hE : E d (.pointer (some ⟨p, 0, none⟩))) : h ≤ p ∧ Cells w p vs := by
  obtain ⟨p', e, h1, h2⟩ := fact_of hT hF hE
  cases e
  exact ⟨h1, h2⟩

section
variable {P : Program} {ops : Array Oper} {C : World → Prop} {l : List (Nat × Fct)} {Q : SEnv → Act → Prop} {a : Act} {o : Oper} {rest : List Oper} {E : SEnv}

/-- an operation whose value is known -/
theorem wpF_val (hgd : o.guard = none) (hQ : MonoQ Q) (hT : ∀ d, o.dst = some d → TS.hasB l d = false) (v : Value) (hv : ∀ w, C w → (execOp a.eval o).run P w = .ok (.value v) w)
    (h : ∀ K : Act → Prop, (∀ a, wpFacts P ops C (TS l) Q rest E a → K a) → K (a.put o.dst v)) : wpFacts P ops C (TS l) Q (o :: rest) E a :=
  wpFacts_val hgd hQ (fun d hd v w => TS.no (hT d hd) v w) v (fun w hC => ⟨w, Below.refl _ _, hv w hC⟩) h

/-- an operation that makes a box -/
theorem wpF_alloc (hgd : o.guard = none) (d : Nat) (hd : o.dst = some d) (h0 : Nat) (vs : List Value) (t : TypeId) (hT : TS.findB l d = some (fBox h0 vs)) (hh : ∀ w, C w → h0 ≤ w.heap.size)
    (hv : ∀ w, (execOp a.eval o).run P w = .ok (.value (.pointer (some ⟨w.heap.size, 0, none⟩))) (w.alloc (.cells vs.toArray t)))
    (h : ∀ p : Nat, wpFacts P ops C (TS l) Q rest (fun x u => E x u ∨ (x = d ∧ u = .pointer (some ⟨p, 0, none⟩))) (a.put o.dst (.pointer (some ⟨p, 0, none⟩)))) : wpFacts P ops C (TS l) Q (o :: rest) E a :=
  wpFacts_some hgd d hd (fun w hC _ => ⟨_, _, below_al1 w _, TS.mk hT ⟨w.heap.size, rfl, hh w hC, Cells.made w vs t⟩, hv w⟩) (fun v ⟨_, hv⟩ => by
    obtain ⟨p, rfl, _⟩ := TS.get hT hv
    exact h p)

/-- a call whose value is known -/
theorem wpF_callV (hgd : o.guard = none) (d : Nat) (hd : o.dst = some d) (f : FuncId) (args : Array Value) (v : Value) (hT : TS.findB l d = some (fIs v)) (hr : ∀ w, (execOp a.eval o).run P w = .ok (.enter f args) w)
    (hc : ∀ w, C w → Calls P f args w fun e w' => e = .returned v ∧ Below w.heap.size w w')
    (h : wpFacts P ops C (TS l) Q rest (fun x u => E x u ∨ (x = d ∧ u = v)) (a.put o.dst v)) : wpFacts P ops C (TS l) Q (o :: rest) E a :=
  wpFacts_call hgd d hd f args hr (fun w hC _ => (hc w hC).mono fun e w' ⟨he, hb⟩ => ⟨v, he, hb, TS.mk hT rfl⟩) (fun u ⟨_, hu⟩ => by
    obtain rfl : u = v := TS.get hT hu
    exact h)

/-- a call that hands back a number -/
theorem wpF_callN (hgd : o.guard = none) (d : Nat) (hd : o.dst = some d) (f : FuncId) (args : Array Value) (k : FloatKind) (S : Nat) (hT : TS.findB l d = some (fNum k S)) (hr : ∀ w, (execOp a.eval o).run P w = .ok (.enter f args) w)
    (hc : ∀ w, C w → Calls P f args w fun e w' => ∃ r, cn k r = S ∧ e = .returned (.float k r) ∧ Below w.heap.size w w')
    (h : ∀ r, cn k r = S → wpFacts P ops C (TS l) Q rest (fun x u => E x u ∨ (x = d ∧ u = .float k r)) (a.put o.dst (.float k r))) : wpFacts P ops C (TS l) Q (o :: rest) E a :=
  wpFacts_call hgd d hd f args hr (fun w hC _ => (hc w hC).mono fun e w' ⟨r, hS, he, hb⟩ => ⟨_, he, hb, TS.mk hT ⟨r, hS, rfl⟩⟩) (fun u ⟨_, hu⟩ => by
    obtain ⟨r, hr, rfl⟩ := TS.get hT hu
    exact h r hr)

/-- a call that bears a fact -/
theorem wpF_callF (hgd : o.guard = none) (d : Nat) (hd : o.dst = some d) (f : FuncId) (args : Array Value) (φ : Fct) (hT : TS.findB l d = some φ) (hr : ∀ w, (execOp a.eval o).run P w = .ok (.enter f args) w)
    (hc : ∀ w, C w → FNeed (TS l) ops o E w → Calls P f args w fun e w' => ∃ v, e = .returned v ∧ Below w.heap.size w w' ∧ φ.1 v w')
    (h : ∀ v, (∃ w, φ.1 v w) → wpFacts P ops C (TS l) Q rest (fun x u => E x u ∨ (x = d ∧ u = v)) (a.put o.dst v)) : wpFacts P ops C (TS l) Q (o :: rest) E a :=
  wpFacts_call hgd d hd f args hr (fun w hC hN => (hc w hC hN).mono fun e w' ⟨v, he, hb, ht⟩ => ⟨v, he, hb, TS.mk hT ht⟩) (fun u ⟨w, hu⟩ => h u ⟨w, TS.get hT hu⟩)

/-- an operation on floats -/
theorem wpF_farith (hgd : o.guard = none) (d : Nat) (hd : o.dst = some d) (op : BinOp) (t : TypeId) (x y : Operand) (t' : TypeId) (ho : o.op = .binOp op t x y t') (hop : isArith op = true) (k : FloatKind) (m n : Nat)
    (hx : a.eval x = .float k m) (hy : a.eval y = .float k n) (S : Nat) (hT : TS.findB l d = some (fNum k S)) (hS : fop op k (cn k m) (cn k n) = S) (h : ∀ r, cn k r = S → wpFacts P ops C (TS l) Q rest (fun x u => E x u ∨ (x = d ∧ u = .float k r)) (a.put o.dst (.float k r))) : wpFacts P ops C (TS l) Q (o :: rest) E a := by
  refine wpFacts_some hgd d hd (fun w hC _ => ?_) (fun v ⟨_, hv⟩ => by
    obtain ⟨r, hr, rfl⟩ := TS.get hT hv
    exact h r hr)
  obtain ⟨r, j, hr, hw⟩ := run_farith (P := P) op hop t k m n w
  refine ⟨_, _, below_drewN (Below.refl _ _) j, TS.mk hT ⟨r, hr.1.trans hS, rfl⟩, ?_⟩
  have hg : (eqGuard op t x y (.float k m) (.float k n)) = pure () := by
    cases op <;> simp [isArith] at hop <;> rfl
  unfold execOp
  simp only [ho, hx, hy, hg, Sem.run_bind, Sem.run_pure, Result.andThen_ok, hw]
end
end Go.Proofs.Ytkbdidpodcclfaa
