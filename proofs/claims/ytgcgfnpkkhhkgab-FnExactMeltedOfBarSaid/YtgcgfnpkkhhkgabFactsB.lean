/- Facts on bars that a law copies. -/
import Derived.Test.YtgcgfnpkkhhkgabFacts2
import Derived.Test.YtgcgfnpkkhhkgabBarE
namespace Go.Proofs.Ytgcgfnpkkhhkgab
open Go.RowKit
set_option linter.unusedVariables false

abbrev bagV (s : SF) (st : Nat) (v : Value) : Value := .agg #[.float .f32 s.so, .float .f32 s.fl, .float .f32 s.es, .float .f32 s.ef, .float .f32 s.pt, .float .f32 s.la, .float .f32 st, v]
/-- it is a bar whose heats lie in a block of their own -/
def fBarAt (s : SF) (st : Nat) (zs : List Nat) : Fct := ⟨fun v w => ∃ p, v = bagV s st (sl p zs) ∧ Cells w p (fl zs), fun _ => Pers.ex fun _ => Pers.and (Pers.const _) (Pers.cells _ _)⟩
theorem fact_need {l : List (Nat × Fct)} {ops : Array Oper} {o : Oper} {E : SEnv} {w : World} {d : Nat} {φ : Fct} {v : Value} (hT : TS.findB l d = some φ) (hN : FNeed (TS l) ops o E w) (hd : (o.looksAt ops).contains d = true) (hE : E d v) : φ.1 v w :=
  TS.get hT (hN d v (by simpa using hd) hE)
theorem barAt_inj {s : SF} {st p q : Nat} {zs : List Nat} (h : bagV s st (sl p zs) = bagV s st (sl q zs)) : p = q := by simpa [bagV, sl] using h
theorem bar_at {s : SF} {st p : Nat} {zs : List Nat} {w : World} (h : (fBarAt s st zs).1 (bagV s st (sl p zs)) w) : Cells w p (fl zs) := by
  obtain ⟨q, e, hc⟩ := h
  rw [barAt_inj e]
  exact hc
end Go.Proofs.Ytgcgfnpkkhhkgab
