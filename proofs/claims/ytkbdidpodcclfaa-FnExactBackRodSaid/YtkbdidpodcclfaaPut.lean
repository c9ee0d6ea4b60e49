/- A list copied into a part of a block. -/
import Derived.Test.YtkbdidpodcclfaaNew
import Derived.Test.YtkbdidpodcclfaaMarkR
import Derived.Laws.CopyOwn
import Derived.Deep.RegionLaw
namespace Go.Proofs.Ytkbdidpodcclfaa
open Go.RowKit
set_option linter.unusedVariables false

/-- what lies in a block into which ys is copied at off -/
def cpF (f : Nat → Nat) (off n : Nat) (ys : Nat → Nat) (i : Nat) : Nat := if off ≤ i ∧ i < off + n then ys (i - off) else f i
theorem row_copied {w : World} {g off n N : Nat} {f ys : Nat → Nat} {c : Array Value} {t : TypeId} (hg : w.heap[g]? = some (.cells c t (0, 0))) (hc : c.size = N) (hf : ∀ i, i < N → c[i]? = some (.float .f32 (f i))) (hfit : off + n ≤ N) :
    (w.setRow g (c.toList.take off ++ ((List.range n).map (fun i => Value.float .f32 (ys i)) ++ c.toList.drop (off + n))).toArray).rowIs g t N (fun i => .float .f32 (cpF f off n ys i)) := by
  refine ⟨_, setRow_heap w g _ _ t _ hg, by simp; omega, fun i hi => ?_⟩
  have hl : c.toList.length = N := by simpa using hc
  have h1 : (c.toList.take off).length = off := by simp; omega
  simp only [List.getElem?_toArray]
  unfold cpF
  by_cases e1 : i < off
  · rw [List.getElem?_append_left (by omega), List.getElem?_take_of_lt e1, if_neg (by omega)]
    simpa using hf i hi
  · rw [List.getElem?_append_right (by omega), h1]
    by_cases e2 : i < off + n
    · rw [List.getElem?_append_left (by simp; omega), if_pos ⟨by omega, e2⟩]
      simp [show i - off < n by omega]
    · rw [List.getElem?_append_right (by simp; omega), if_neg (by omega)]
      simp only [List.length_map, List.length_range, List.getElem?_drop]
      rw [show off + n + (i - off - n) = i by omega]
      simpa using hf i hi
theorem onl_setRow (w : World) (g : Nat) (cs : Array Value) : Onl g w (w.setRow g cs) := by
  refine ⟨rfl, rfl, rfl, by simp [World.setRow], fun k hk => setRow_other w g k cs hk⟩

theorem step_copy32 {ops : Array Oper} {o : Oper} {a : Act} {w : World} {K : Act → World → Prop} {Q : Exit → Act → World → Prop} {E : Prop} (hgd : o.guard = none) (d s : Operand)
    (ho : o.op = .call { callee := .builtin .copy, args := #[d, s], argTypes := #[23, 23] })
    (g off dl dc N : Nat) (f : Nat → Nat) (hd : a.eval d = .slice (some ⟨g, off, none⟩) dl dc) (q oq n sc : Nat) (ys : Nat → Nat) (hs : a.eval s = .slice (some ⟨q, oq, none⟩) n sc)
    (hr : w.rowIs g 22 N (fun i => .float .f32 (f i))) (hdl : n ≤ dl) (hfit : off + n ≤ N) (hsrc : ∀ i, i < n → w.cell? ⟨q, oq + i, none⟩ = some (.float .f32 (ys i)))
    (h : ∀ w', w'.rowIs g 22 N (fun i => .float .f32 (cpF f off n ys i)) → Onl g w w' → K (a.put o.dst (goInt n)) w') :
    if Region.wanted o (yielded ops a.tmps) = true then Oper.wp Try.prog o a w K Q else E := by
  have hw : Region.wanted o (yielded ops a.tmps) = true := by simp [Region.wanted, hgd]
  rw [if_pos hw]
  obtain ⟨c, hg, hc, hf⟩ := hr
  have hcl : ((List.range n).map (fun i => Value.float .f32 (ys i))).length = n := by simp
  have hrun := run_copy_row (P := Try.prog) w 23 23 o.type 22 g off dl dc ⟨q, oq, none⟩ n sc c 22 ((List.range n).map (fun i => Value.float .f32 (ys i))) Try.underlying23 (by
      have h := Try.rowOf32
      cases e : Try.prog.info? 22 with
      | none => rw [e] at h; simp at h
      | some i =>
        rw [e] at h
        simp only [Option.map_some, Option.some.injEq, Prod.mk.injEq] at h
        simp [h.2.1]) hg (by rw [hcl]; exact (Nat.min_eq_left hdl).symm) (fun j v hj => by
      have hjn : j < n := by
        by_cases hl : j < n
        · exact hl
        · rw [List.getElem?_eq_none (by simpa using hl)] at hj
          cases hj
      have e : v = .float .f32 (ys j) := by simp [hjn] at hj; exact hj.symm
      have h2 := hsrc j hjn
      rw [e]
      by_cases hj0 : j = 0
      · subst hj0
        simpa [Addr.add] using h2
      · simpa [Addr.add, hj0] using h2) (by rw [hcl, hc]; exact hfit) (fun v hv => by
      simp at hv
      obtain ⟨z, _, rfl⟩ := hv
      rfl)
  rw [hcl, List.append_assoc] at hrun
  unfold Oper.wp
  simp [execOp, ho, resolve, invoke, builtin, hd, hs, hrun, Result.andThen]
  refine h _ ?_ (onl_setRow _ _ _)
  have := row_copied (ys := ys) hg hc hf hfit
  simpa using this
end Go.Proofs.Ytkbdidpodcclfaa
