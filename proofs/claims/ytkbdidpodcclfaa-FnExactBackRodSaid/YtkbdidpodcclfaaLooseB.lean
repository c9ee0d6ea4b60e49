/- Drawn regions in which memory may be made besides: what is held of the world is that nothing that was there has turned. -/
import Derived.Test.YtkbdidpodcclfaaFr
import Derived.Test.YtkbdidpodcclfaaLoose
namespace Go.Proofs.Ytkbdidpodcclfaa
open Go.RowKit

section
variable {P : Program} {ops : Array Oper} {C : World → Prop} {Sg : FuncId → Array Value → Value → Prop}

theorem wp_region_looseC {id : Nat} {Q : Exit → Act → World → Prop} {a : Act} {w : World} {l : List Oper} (C : World → Prop) (Sg : FuncId → Array Value → Value → Prop) (hC : C (w.drewN 1)) (hm : P.follows .mixedOrders = true) (hB : Region.lexB .any l.toArray = true)
    (h : wpLoose P l.toArray C Sg (fun a' => ∀ w', C w' → Q .normal a' w') l a) : (Code.region id l.toArray true).wp P Q a w := by
  simp only [Region.lexB, Bool.and_eq_true] at hB
  refine wp_region_any hm (wpAny_of_loose (C := C) (Sg := Sg) (Q := fun a' => ∀ w', C w' → Q .normal a' w') (fun _ w' hw' h => h w' hw') _ _ _ _ hC ?_)
  have := wpAnyL_lex (C := C) (Sg := Sg) (md := .any) (w0 := w.drewN 1) hC hB.1 l 0 (Array.replicate l.length false) a (by simp) (by simpa using hB.2) h
  simpa using this

/-- nothing that was there has turned -/
abbrev Ext (w : World) : World → Prop := fun w' => Below w.heap.size w w'
theorem Ext.start (w : World) : Ext w (w.drewN 1) := below_drewN (Below.refl _ _) 1
theorem Ext.draw {w w' : World} (h : Ext w w') (j : Nat) : Ext w (w'.drewN j) := below_drewN h j

variable {Q : Act → Prop} {a : Act} {o : Oper} {rest : List Oper} {w : World}

theorem wpLoose_val (hgd : o.guard = none) (v : Value) (hv : ∀ w', C w' → (execOp a.eval o).run P w' = .ok (.value v) w') (h : wpLoose P ops C Sg Q rest (a.put o.dst v)) : wpLoose P ops C Sg Q (o :: rest) a :=
  wpLoose_some hgd (· = v) (fun w' hw' => ⟨v, w', rfl, hw', hv w' hw'⟩) (fun _ e => by rw [e]; exact h)

theorem wpLoose_valK (hgd : o.guard = none) (v : Value) (hv : ∀ w', C w' → (execOp a.eval o).run P w' = .ok (.value v) w') (h : ∀ K : Act → Prop, (∀ a, wpLoose P ops C Sg Q rest a → K a) → K (a.put o.dst v)) : wpLoose P ops C Sg Q (o :: rest) a :=
  wpLoose_val hgd v hv (h _ fun _ h => h)

theorem wpLoose_farithB (hgd : o.guard = none) (op : BinOp) (t : TypeId) (x y : Operand) (t' : TypeId) (ho : o.op = .binOp op t x y t') (hop : isArith op = true) (k : FloatKind) (m n : Nat)
    (hx : a.eval x = .float k m) (hy : a.eval y = .float k n) (h : ∀ r, FR op k m n r → wpLoose P ops (Ext w) Sg Q rest (a.put o.dst (.float k r))) : wpLoose P ops (Ext w) Sg Q (o :: rest) a := by
  refine wpLoose_some hgd (fun v => ∃ r, FR op k m n r ∧ v = .float k r) (fun w1 hw1 => ?_) (fun v ⟨r, hr, e⟩ => by rw [e]; exact h r hr)
  obtain ⟨r, j, hr, hw⟩ := run_farith (P := P) op hop t k m n w1
  refine ⟨_, _, ⟨r, hr, rfl⟩, Ext.draw hw1 j, ?_⟩
  have hg : (eqGuard op t x y (.float k m) (.float k n)) = pure () := by
    cases op <;> simp [isArith] at hop <;> rfl
  unfold execOp
  simp only [ho, hx, hy, hg, Sem.run_bind, Sem.run_pure, Result.andThen_ok, hw]

/-- a call of a function, by its contract -/
theorem wpLoose_callS (hgd : o.guard = none) (f : FuncId) (args : Array Value) (hr : ∀ w1, (execOp a.eval o).run P w1 = .ok (.enter f args) w1)
    (hc : ∀ w1, Ext w w1 → Calls P f args w1 fun e w2 => ∃ v, e = .returned v ∧ Sg f args v ∧ Below w1.heap.size w1 w2) (h : ∀ v, Sg f args v → wpLoose P ops (Ext w) Sg Q rest (a.put o.dst v)) :
    wpLoose P ops (Ext w) Sg Q (o :: rest) a := by
  have hw : Region.wanted o (yielded ops a.tmps) = true := by simp [Region.wanted, hgd]
  unfold wpLoose
  rw [if_pos hw]
  refine ⟨fun w1 hw1 => ?_, ?_⟩
  · rw [hr w1]
    exact ⟨hw1, (hc w1 hw1).mono fun e w2 ⟨v, he, hs, hb⟩ => ⟨v, he, hs, below_step hw1 hb⟩⟩
  · rintro u ⟨w1, hw1, hu⟩
    rw [hr w1] at hu
    exact h _ hu
end

/-- what was there is there -/
theorem Ext.cell {w w' : World} (h : Ext w w') {p i : Nat} {v : Value} (hv : w.cell? ⟨p, i, none⟩ = some v) : w'.cell? ⟨p, i, none⟩ = some v :=
  (Below.cell h (p := ⟨p, i, none⟩) (cell_lt hv)).trans hv
end Go.Proofs.Ytkbdidpodcclfaa
