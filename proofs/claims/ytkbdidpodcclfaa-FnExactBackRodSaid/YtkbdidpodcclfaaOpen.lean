/- Arguments that are structs, opened: a rod (four slices of 32-bit numbers) and an end (an integer and two 32-bit numbers). -/
import Derived.Test.YtkbdidpodcclfaaRod
import Derived.Lib.SmallJoins
namespace Go.Proofs.Ytkbdidpodcclfaa
open Go.RowKit Go.ChangeShapes Go.WideShapes Go.Joins Go.Deep

section
variable {H : Type} {enc : TypeId × Value → H} {P : Program} {w : World} {base : Nat} {spare : Nat → Bool} {held : Bool}

theorem trod_f32 {t : TypeId} {n : Nat} {v : Value} {y : DataW H × List MemPlace} (he : P.underlying t = some (.float .f32)) (h : DataW.trod enc P w base spare held n t [v] = some y) :
    ∃ b, v = .float .f32 b ∧ (Lit.float .f32 b).wf = true := by
  cases n with
  | zero => simp [DataW.trod] at h
  | succ n =>
    cases v <;> simp [DataW.trod, he] at h
    rename_i k b
    obtain ⟨⟨rfl, hw⟩, _⟩ := h
    exact ⟨b, rfl, hw⟩

theorem trod_i64 {t : TypeId} {n : Nat} {v : Value} {y : DataW H × List MemPlace} (he : P.underlying t = some (.int .i64)) (h : DataW.trod enc P w base spare held n t [v] = some y) :
    ∃ b, v = .int .i64 b ∧ (Lit.int .i64 b).wf = true := by
  cases n with
  | zero => simp [DataW.trod] at h
  | succ n =>
    cases v <;> simp [DataW.trod, he] at h
    rename_i k b
    obtain ⟨⟨rfl, hw⟩, _⟩ := h
    exact ⟨b, rfl, hw⟩

theorem trod_f32s {t e : TypeId} {n : Nat} {v : Value} {y : DataW H × List MemPlace} (ht : P.underlying t = some (.slice e)) (he : P.underlying e = some (.float .f32)) (hc : P.cellsOf e = 1)
    (h : DataW.trod enc P w base spare held n t [v] = some y) : ∃ zs, FRow w v zs ∧ ∀ i, i < zs.length → (Lit.float .f32 (zs.getD i 0)).wf = true := by
  have hv : ∃ a len cap, v = .slice a len cap := by
    rcases Deep.open_slice1 ht hc h with ⟨hcs, _⟩ | ⟨x, l, c, m, n, V, D, Pl, hcs, _⟩
    · simp at hcs; exact ⟨_, _, _, hcs⟩
    · simp at hcs; exact ⟨_, _, _, hcs⟩
  obtain ⟨a, len, cap, rfl⟩ := hv
  obtain ⟨zs, hz, hw⟩ := open_f32s (enc := enc) (P := P) (w := w) (base := base) (spare := spare) (held := held) (d := y.1) (ps := y.2) ht he hc ⟨n, by simpa [Value.cells] using h⟩
  exact ⟨zs, hz, hw⟩

theorem open_rodw {r : Reach} {b0 : Nat} {t s e : TypeId} {f0 f1 f2 f3 : Field} {v : Value} {d : DataW H} {p : List MemPlace} (hs : P.underlying t = some (.struct #[f0, f1, f2, f3])) (hone : oneCellFields P #[f0, f1, f2, f3] = true) (hC : P.cellsOf t = 4)
    (e0 : f0.type = s) (e1 : f1.type = s) (e2 : f2.type = s) (e3 : f3.type = s) (ht : P.underlying s = some (.slice e)) (he : P.underlying e = some (.float .f32)) (hc : P.cellsOf e = 1)
    (hv : Value.okWide P w r b0 t v) (h : DataW.Trod enc P w base spare held t v d p) : ∃ v0 v1 v2 v3 rl, v = .agg #[v0, v1, v2, v3] ∧ RRow w v0 v1 v2 v3 rl ∧ (∀ i, i < rl.W.length → (Lit.float .f32 (rl.W.getD i 0)).wf = true) ∧ (∀ i, i < rl.E.length → (Lit.float .f32 (rl.E.getD i 0)).wf = true) ∧ (∀ i, i < rl.H.length → (Lit.float .f32 (rl.H.getD i 0)).wf = true) ∧ (∀ i, i < rl.T.length → (Lit.float .f32 (rl.T.getD i 0)).wf = true) := by
  obtain ⟨c0, c1, c2, c3, y0, y1, y2, y3, m, rfl, rfl, rfl, h0, h1, h2, h3⟩ := open_agg4 hs hone hC hv h
  rw [e0] at h0; rw [e1] at h1; rw [e2] at h2; rw [e3] at h3
  obtain ⟨z0, k0, m0⟩ := trod_f32s ht he hc h0
  obtain ⟨z1, k1, m1⟩ := trod_f32s ht he hc h1
  obtain ⟨z2, k2, m2⟩ := trod_f32s ht he hc h2
  obtain ⟨z3, k3, m3⟩ := trod_f32s ht he hc h3
  exact ⟨c0, c1, c2, c3, ⟨z0, z1, z2, z3⟩, rfl, ⟨k0, k1, k2, k3⟩, m0, m1, m2, m3⟩

theorem open_rod {r : Reach} {b0 : Nat} {t s e : TypeId} {f0 f1 f2 f3 : Field} {v : Value} {d : DataW H} {p : List MemPlace} (hs : P.underlying t = some (.struct #[f0, f1, f2, f3])) (hone : oneCellFields P #[f0, f1, f2, f3] = true) (hC : P.cellsOf t = 4)
    (e0 : f0.type = s) (e1 : f1.type = s) (e2 : f2.type = s) (e3 : f3.type = s) (ht : P.underlying s = some (.slice e)) (he : P.underlying e = some (.float .f32)) (hc : P.cellsOf e = 1)
    (hv : Value.okWide P w r b0 t v) (h : DataW.Trod enc P w base spare held t v d p) : ∃ v0 v1 v2 v3 rl, v = .agg #[v0, v1, v2, v3] ∧ RRow w v0 v1 v2 v3 rl := by
  obtain ⟨v0, v1, v2, v3, rl, e, h, _⟩ := open_rodw hs hone hC e0 e1 e2 e3 ht he hc hv h
  exact ⟨v0, v1, v2, v3, rl, e, h⟩

theorem open_end {r : Reach} {b0 : Nat} {t : TypeId} {f0 f1 f2 : Field} {v : Value} {d : DataW H} {p : List MemPlace} (hs : P.underlying t = some (.struct #[f0, f1, f2])) (hone : oneCellFields P #[f0, f1, f2] = true) (hC : P.cellsOf t = 3)
    (e0 : P.underlying f0.type = some (.int .i64)) (e1 : P.underlying f1.type = some (.float .f32)) (e2 : P.underlying f2.type = some (.float .f32))
    (hv : Value.okWide P w r b0 t v) (h : DataW.Trod enc P w base spare held t v d p) : ∃ k x y, v = .agg #[.int .i64 k, .float .f32 x, .float .f32 y] ∧ (Lit.int .i64 k).wf = true ∧ (Lit.float .f32 x).wf = true ∧ (Lit.float .f32 y).wf = true := by
  obtain ⟨c0, c1, c2, y0, y1, y2, m, rfl, rfl, rfl, h0, h1, h2⟩ := open_agg3 hs hone hC hv h
  obtain ⟨k, rfl, hk⟩ := trod_i64 e0 h0
  obtain ⟨x, rfl, hx⟩ := trod_f32 e1 h1
  obtain ⟨y, rfl, hy⟩ := trod_f32 e2 h2
  exact ⟨k, x, y, rfl, hk, hx, hy⟩
end
end Go.Proofs.Ytkbdidpodcclfaa
