/- A float operation that stands behind a guard, as the walk meets it. -/
import Derived.Test.YtabdinmodopadaaFc
namespace Go.Proofs.Ytabdinmodopadaa
open Go

theorem upon_fa {P : Program} {o : Oper} {a : Act} {K : Act → World → Prop} {Q : Exit → Act → World → Prop} {w : World} (op : BinOp) (hop : isArith op = true) (t : TypeId) (k : FloatKind) (m n : Nat)
    (h : ∀ r j, FR op k m n r → Oper.upon P o a K Q ((Result.ok (Value.float k r) (w.drewN j)).andThen fun v w' => .ok (Next.value v) w')) :
    Oper.upon P o a K Q (((binOp op t (.float k m) (.float k n)).run P w).andThen fun v w' => .ok (Next.value v) w') := by
  obtain ⟨r, j, hr, hw⟩ := run_farith (P := P) op hop t k m n w
  rw [hw]
  exact h r j hr
theorem upon_up {P : Program} {o : Oper} {a : Act} {K : Act → World → Prop} {Q : Exit → Act → World → Prop} {w : World} {S D : TypeId} (hs : P.underlying S = some (.float .f32)) (hd : P.underlying D = some (.float .f64)) (m : Nat)
    (h : ∀ r j, UR m r → Oper.upon P o a K Q ((Result.ok (Value.float .f64 r) (w.drewN j)).andThen fun v w' => .ok (Next.value v) w')) :
    Oper.upon P o a K Q (((convert S D (.float .f32 m)).run P w).andThen fun v w' => .ok (Next.value v) w') := by
  obtain ⟨r, j, hr, hw⟩ := run_up hs hd m w
  rw [hw]
  exact h r j hr
end Go.Proofs.Ytabdinmodopadaa
