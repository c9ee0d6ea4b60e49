/- What the walks of laws over rods that hand back a rod share. -/
import Derived.Test.YtkbdidpodcclfaaRodX
import Derived.Test.YtkbdidpodcclfaaMkXk
import Derived.Test.YtkbdidpodcclfaaFacts2
namespace Go.Proofs.Ytkbdidpodcclfaa
open Go.RowKit
set_option linter.unusedVariables false

theorem RodAt.tur {S : Nat → Prop} {w w' : World} {p0 p1 p2 p3 : Nat} {r : RL} (h : RodAt w p0 p1 p2 p3 r) (t : Tur S w w') (hS : ∀ j, p0 ≤ j → j ≤ p3 → ¬ S j) : RodAt w' p0 p1 p2 p3 r := by
  have h1 := h.o01; have h2 := h.o12; have h3 := h.o23
  exact ⟨t.cells h.W (hS _ (by omega) (by omega)), t.cells h.E (hS _ (by omega) (by omega)), t.cells h.H (hS _ (by omega) (by omega)), t.cells h.T (hS _ (by omega) (by omega)), h.o01, h.o12, h.o23⟩
theorem eqFB32 (v v' : Value) (zs ys : List Nat) (w : World) (h : FRow w v zs) (h' : FRow w v' ys) (hs : SameList zs ys) : Calls Try.prog 25 #[v, v'] w (fun e w2 => e = .returned (.bool true) ∧ Below w.heap.size w w2) :=
  (eqF_any v v' zs ys w h h' hs).mono fun e w2 ⟨he, m, hm⟩ => ⟨he, by subst hm; exact below_drewN (Below.refl _ _) m⟩
abbrev ragV (a b c d : Value) : Value := .agg #[a, b, c, d]
/-- it is a rod whose lists lie in blocks of their own -/
def fRdAt (r : RL) : Fct := ⟨fun v w => ∃ p0 p1 p2 p3, v = ragV (sl p0 r.W) (sl p1 r.E) (sl p2 r.H) (sl p3 r.T) ∧ RodAt w p0 p1 p2 p3 r, fun _ => Pers.ex fun _ => Pers.ex fun _ => Pers.ex fun _ => Pers.ex fun _ => Pers.and (Pers.const _) (fun _ _ h hb => h.kept hb)⟩
theorem fact_needR {l : List (Nat × Fct)} {ops : Array Oper} {o : Oper} {E : SEnv} {w : World} {d : Nat} {φ : Fct} {v : Value} (hT : TS.findB l d = some φ) (hN : FNeed (TS l) ops o E w) (hd : (o.looksAt ops).contains d = true) (hE : E d v) : φ.1 v w :=
  TS.get hT (hN d v (by simpa using hd) hE)
theorem rod_at {r : RL} {p0 p1 p2 p3 : Nat} {w : World} (h : (fRdAt r).1 (ragV (sl p0 r.W) (sl p1 r.E) (sl p2 r.H) (sl p3 r.T)) w) : RodAt w p0 p1 p2 p3 r := by
  obtain ⟨q0, q1, q2, q3, e, hc⟩ := h
  simp [ragV, sl] at e
  obtain ⟨rfl, rfl, rfl, rfl⟩ := e
  exact hc
end Go.Proofs.Ytkbdidpodcclfaa
