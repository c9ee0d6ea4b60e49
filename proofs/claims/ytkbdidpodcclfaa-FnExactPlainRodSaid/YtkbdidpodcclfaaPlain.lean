/- Four lists that a call makes side by side, appending to each in turn. -/
import Derived.Test.YtkbdidpodcclfaaMarkR
import Derived.Deep.AppendLies
namespace Go.Proofs.Ytkbdidpodcclfaa
open Go.RowKit
set_option linter.unusedVariables false

theorem Own.tur {S : Nat → Prop} {w w' : World} {base : Nat} {v : Value} {zs : List Nat} (h : Own w base v zs) (ht : Tur S w w') (hs : ∀ a, v.ownBlock = some a → ¬ S a) : Own w' base v zs := by
  obtain ⟨h1, h2⟩ := h
  refine ⟨h1, ?_⟩
  rcases h2 with h2 | ⟨g, cap, cur, e, hg, hc, h3⟩
  · exact .inl h2
  · refine .inr ⟨g, cap, cur, e, hg, ?_, h3⟩
    have hlt : g < w.heap.size := by
      by_cases hx : g < w.heap.size
      · exact hx
      · rw [Array.getElem?_eq_none (by simpa using hx)] at hc
        cases hc
    rw [ht.block g hlt (hs g (by rw [e]; rfl))]
    exact hc
theorem Own.lt {w : World} {base : Nat} {v : Value} {zs : List Nat} (h : Own w base v zs) {a : Nat} (ha : v.ownBlock = some a) : base ≤ a ∧ a < w.heap.size := World.ownsRow.lt h a ha

/-- an append, and where the new slice lies -/
theorem wpList_app32L {ops : Array Oper} {rest : List Oper} {o : Oper} {a : Act} {Q : Exit → Act → World → Prop} {w : World} (hgd : o.guard = none) (s x : Operand)
    (ho : o.op = .call { callee := .builtin .append, args := #[s, x], argTypes := #[23, 23] })
    (base : Nat) (v : Value) (zs : List Nat) (hs : a.eval s = v) (hown : Own w base v zs) (q z c : Nat) (hx : a.eval x = .slice (some ⟨q, 0, none⟩) 1 c) (hq : w.cell? ⟨q, 0, none⟩ = some (.float .f32 z))
    (hk : zs.length ≤ 1048576) (hbase : base ≤ w.heap.size)
    (h : ∀ g cap w', Own w' base (.slice (some ⟨g, 0, none⟩) (zs.length + 1) cap) (zs ++ [z]) → Tur (fun b => v.ownBlock = some b) w w' → (v.ownBlock = some g ∨ g = w.heap.size) → g < w'.heap.size → wpList Try.prog ops Q rest (a.put o.dst (.slice (some ⟨g, 0, none⟩) (zs.length + 1) cap)) w') : wpList Try.prog ops Q (o :: rest) a w := by
  obtain ⟨i, hi, hz, hsz, hby⟩ := info32
  have hm : maxLen = 9223372036854775807 := rfl
  refine wpList_append_lies w hgd s x _ ho base 22 i (.float .f32 0) 1 4 Try.underlying23 hi hz hsz hby rfl (by decide) v zs.length (fl zs) hs hown ⟨q, 0, none⟩ 1 c [.float .f32 z] hx rfl (fun j u hj => ?_) (fun u hu => ?_) (by decide) (by omega) (by omega) hbase _ rfl (fun g cap w' h1 h2 h3 h4 => ?_)
  · cases j with
    | zero => simp at hj; subst hj; simpa [Addr.add] using hq
    | succ j => simp at hj
  · simp at hu; subst hu; rfl
  · refine h g cap w' ?_ ?_ h3 h4
    · unfold Own
      simpa [fl] using h1
    · have hb := (Below.refl 0 w).grown h2 (Nat.zero_le _) (fun _ _ => Nat.zero_le _)
      exact ⟨hb.os, hb.tape, hb.output, hb.size, fun k hk hs => h2.block k hk (fun e => hs e.symm)⟩

/-- four lists that a call makes, in blocks apart -/
structure Quad (w : World) (base : Nat) (v0 : Value) (L0 : List Nat) (v1 : Value) (L1 : List Nat) (v2 : Value) (L2 : List Nat) (v3 : Value) (L3 : List Nat) : Prop where
  o0 : Own w base v0 L0
  o1 : Own w base v1 L1
  o2 : Own w base v2 L2
  o3 : Own w base v3 L3
  d01 : ∀ a, v0.ownBlock = some a → ¬ v1.ownBlock = some a
  d02 : ∀ a, v0.ownBlock = some a → ¬ v2.ownBlock = some a
  d03 : ∀ a, v0.ownBlock = some a → ¬ v3.ownBlock = some a
  d12 : ∀ a, v1.ownBlock = some a → ¬ v2.ownBlock = some a
  d13 : ∀ a, v1.ownBlock = some a → ¬ v3.ownBlock = some a
  d23 : ∀ a, v2.ownBlock = some a → ¬ v3.ownBlock = some a
theorem Quad.rot {w : World} {base : Nat} {v0 : Value} {L0 : List Nat} {v1 : Value} {L1 : List Nat} {v2 : Value} {L2 : List Nat} {v3 : Value} {L3 : List Nat} (h : Quad w base v0 L0 v1 L1 v2 L2 v3 L3) : Quad w base v1 L1 v2 L2 v3 L3 v0 L0 :=
  ⟨h.o1, h.o2, h.o3, h.o0, h.d12, h.d13, fun a h1 h0 => h.d01 a h0 h1, h.d23, fun a h2 h0 => h.d02 a h0 h2, fun a h3 h0 => h.d03 a h0 h3⟩
theorem Quad.tur {S : Nat → Prop} {w w' : World} {base : Nat} {v0 : Value} {L0 : List Nat} {v1 : Value} {L1 : List Nat} {v2 : Value} {L2 : List Nat} {v3 : Value} {L3 : List Nat} (h : Quad w base v0 L0 v1 L1 v2 L2 v3 L3) (ht : Tur S w w') (hs : ∀ a, base ≤ a → ¬ S a) : Quad w' base v0 L0 v1 L1 v2 L2 v3 L3 :=
  ⟨h.o0.tur ht (fun a ha => hs a (h.o0.lt ha).1), h.o1.tur ht (fun a ha => hs a (h.o1.lt ha).1), h.o2.tur ht (fun a ha => hs a (h.o2.lt ha).1), h.o3.tur ht (fun a ha => hs a (h.o3.lt ha).1), h.d01, h.d02, h.d03, h.d12, h.d13, h.d23⟩
theorem Quad.al {w : World} {base : Nat} {v0 : Value} {L0 : List Nat} {v1 : Value} {L1 : List Nat} {v2 : Value} {L2 : List Nat} {v3 : Value} {L3 : List Nat} (h : Quad w base v0 L0 v1 L1 v2 L2 v3 L3) (o : Obj) : Quad (w.alloc o) base v0 L0 v1 L1 v2 L2 v3 L3 :=
  h.tur (S := fun _ => False) (Tur.of_below (below_al1 w o)) (fun _ _ h => h)
theorem Tur.setCell (w : World) (p i : Nat) (u : Value) : Tur (· = p) w (w.setCell ⟨p, i, none⟩ u) := Tur.of_onl ((Onl.refl p w).setCell i u) rfl
theorem Quad.far {w : World} {base p : Nat} {v0 : Value} {L0 : List Nat} {v1 : Value} {L1 : List Nat} {v2 : Value} {L2 : List Nat} {v3 : Value} {L3 : List Nat} (h : Quad w base v0 L0 v1 L1 v2 L2 v3 L3) (hp : p < base) (i : Nat) (u : Value) : Quad (w.setCell ⟨p, i, none⟩ u) base v0 L0 v1 L1 v2 L2 v3 L3 :=
  h.tur (Tur.setCell w p i u) (fun a ha e => by omega)
/-- the first list grows -/
theorem Quad.step {w w' : World} {base g cap : Nat} {v0 : Value} {L0 L : List Nat} {v1 : Value} {L1 : List Nat} {v2 : Value} {L2 : List Nat} {v3 : Value} {L3 : List Nat} (h : Quad w base v0 L0 v1 L1 v2 L2 v3 L3)
    {n : Nat} (h0 : Own w' base (.slice (some ⟨g, 0, none⟩) n cap) L) (ht : Tur (fun b => v0.ownBlock = some b) w w') (hg : v0.ownBlock = some g ∨ g = w.heap.size) : Quad w' base (.slice (some ⟨g, 0, none⟩) n cap) L v1 L1 v2 L2 v3 L3 := by
  have key : ∀ v : Value, ∀ Lv, Own w base v Lv → (∀ a, v0.ownBlock = some a → ¬ v.ownBlock = some a) → ∀ a, (Value.slice (some ⟨g, 0, none⟩) n cap).ownBlock = some a → ¬ v.ownBlock = some a := by
    intro v Lv ho hd a ha hv
    have e : g = a := by simpa [Value.ownBlock] using ha
    subst e
    rcases hg with hg | hg
    · exact hd g hg hv
    · have := (ho.lt hv).2
      omega
  exact ⟨h0, h.o1.tur ht (fun a h1 h0 => h.d01 a h0 h1), h.o2.tur ht (fun a h1 h0 => h.d02 a h0 h1), h.o3.tur ht (fun a h1 h0 => h.d03 a h0 h1), key v1 L1 h.o1 h.d01, key v2 L2 h.o2 h.d02, key v3 L3 h.o3 h.d03, h.d12, h.d13, h.d23⟩
end Go.Proofs.Ytkbdidpodcclfaa
