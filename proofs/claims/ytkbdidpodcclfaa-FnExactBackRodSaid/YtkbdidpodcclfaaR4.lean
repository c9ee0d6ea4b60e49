/- Rods whose lists lie in blocks of a range. -/
import Derived.Test.YtkbdidpodcclfaaRodX
import Derived.Test.YtkbdidpodcclfaaFacts2
namespace Go.Proofs.Ytkbdidpodcclfaa
open Go.RowKit
set_option linter.unusedVariables false

theorem OIn.wide {lo hi lo' hi' : Nat} {w : World} {v : Value} {zs : List Nat} (H : OIn lo hi w v zs) (h1 : lo' ≤ lo) (h2 : hi ≤ hi') : OIn lo' hi' w v zs := by
  rcases H with H | ⟨g, o, c, rfl, hg, hh, hr⟩
  · exact .inl H
  · exact .inr ⟨g, o, c, rfl, Nat.le_trans h1 hg, Nat.lt_of_lt_of_le hh h2, hr⟩
theorem Tur.set1 (w : World) (p i : Nat) (u : Value) : Tur (· = p) w (w.setCell ⟨p, i, none⟩ u) := Tur.of_onl ((Onl.refl p w).setCell i u) rfl
theorem OIn.set {lo hi : Nat} {w : World} {v : Value} {zs : List Nat} (H : OIn lo hi w v zs) (p i : Nat) (u : Value) (hp : p < lo ∨ hi ≤ p) : OIn lo hi (w.setCell ⟨p, i, none⟩ u) v zs :=
  H.tur (Tur.set1 w p i u) (fun j h1 h2 e => by have e' : j = p := e; omega)
def R4 (lo hi : Nat) (w : World) (a b c d : Value) (r : RL) : Prop := OIn lo hi w a r.W ∧ OIn lo hi w b r.E ∧ OIn lo hi w c r.H ∧ OIn lo hi w d r.T
theorem R4.kept {lo hi : Nat} {w w' : World} {a b c d : Value} {r : RL} (H : R4 lo hi w a b c d r) (hb : Below w.heap.size w w') : R4 lo hi w' a b c d r := ⟨H.1.kept hb, H.2.1.kept hb, H.2.2.1.kept hb, H.2.2.2.kept hb⟩
theorem R4.tur {lo hi : Nat} {S : Nat → Prop} {w w' : World} {a b c d : Value} {r : RL} (H : R4 lo hi w a b c d r) (t : Tur S w w') (hS : ∀ j, lo ≤ j → j < hi → ¬ S j) : R4 lo hi w' a b c d r := ⟨H.1.tur t hS, H.2.1.tur t hS, H.2.2.1.tur t hS, H.2.2.2.tur t hS⟩
theorem R4.set {lo hi : Nat} {w : World} {a b c d : Value} {r : RL} (H : R4 lo hi w a b c d r) (p i : Nat) (u : Value) (hp : p < lo ∨ hi ≤ p) : R4 lo hi (w.setCell ⟨p, i, none⟩ u) a b c d r :=
  ⟨H.1.set p i u hp, H.2.1.set p i u hp, H.2.2.1.set p i u hp, H.2.2.2.set p i u hp⟩
theorem R4.rrow {lo hi : Nat} {w : World} {a b c d : Value} {r : RL} (H : R4 lo hi w a b c d r) (hl : r.size ≤ 1048576) : RRow w a b c d r := by
  have hx : maxLen = 9223372036854775807 := rfl
  unfold RL.size at hl
  exact ⟨H.1.frow (by omega), H.2.1.frow (by omega), H.2.2.1.frow (by omega), H.2.2.2.frow (by omega)⟩
/-- a fact: a list in blocks made since lo -/
def fO (lo : Nat) (zs : List Nat) : Fct := ⟨fun v w => ORow lo w v zs, fun _ _ _ h hb => h.kept hb⟩
end Go.Proofs.Ytkbdidpodcclfaa
