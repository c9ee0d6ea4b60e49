/- Arguments that are bars, opened: a stuff, a number and a slice of numbers. -/
import Derived.Test.YthedpbdeahieaaaDoorOpen3
import Derived.Test.YthedpbdeahieaaaDoorFr
namespace Go.Proofs.YthedpbdeahieaaaDoor
open Go.RowKit Go.ChangeShapes Go.WideShapes Go.Joins Go.Deep

section
variable {H : Type} {enc : TypeId × Value → H} {P : Program} {w : World} {base : Nat} {spare : Nat → Bool} {held : Bool}

theorem tr_f32s {t e : TypeId} {n : Nat} {v : Value} {y : DataW H × List MemPlace} (ht : P.underlying t = some (.slice e)) (he : P.underlying e = some (.float .f32)) (hc : P.cellsOf e = 1)
    (h : DataW.trod enc P w base spare held n t [v] = some y) : ∃ zs, FRow w v zs ∧ ∀ i, i < zs.length → (Lit.float .f32 (zs.getD i 0)).wf = true := by
  have hv : ∃ a len cap, v = .slice a len cap := by
    rcases Deep.open_slice1 ht hc h with ⟨hcs, _⟩ | ⟨x, l, c, m, n, V, D, Pl, hcs, _⟩
    · simp at hcs; exact ⟨_, _, _, hcs⟩
    · simp at hcs; exact ⟨_, _, _, hcs⟩
  obtain ⟨a, len, cap, rfl⟩ := hv
  obtain ⟨zs, hz, hw⟩ := open_f32s (enc := enc) (P := P) (w := w) (base := base) (spare := spare) (held := held) (d := y.1) (ps := y.2) ht he hc ⟨n, by simpa [Value.cells] using h⟩
  exact ⟨zs, hz, hw⟩

theorem open_bar {r : Reach} {b0 : Nat} {t tf ts te : TypeId} {f0 f1 f2 f3 f4 f5 g0 g1 g2 : Field} {v : Value} {d : DataW H} {p : List MemPlace} (hb : P.underlying t = some (.struct #[g0, g1, g2])) (hBC : P.cellsOf t = 8)
    (p0 : g0.offset = 0) (p1 : g1.offset = 6) (p2 : g2.offset = 7) (q1 : P.cellsOf g1.type = 1) (q2 : P.cellsOf g2.type = 1) (t0 : g0.type = tf) (t2 : g2.type = ts)
    (hs : P.underlying tf = some (.struct #[f0, f1, f2, f3, f4, f5])) (hone : oneCellFields P #[f0, f1, f2, f3, f4, f5] = true) (hC : P.cellsOf tf = 6)
    (e0 : P.underlying f0.type = some (.float .f32)) (e1 : P.underlying f1.type = some (.float .f32)) (e2 : P.underlying f2.type = some (.float .f32)) (e3 : P.underlying f3.type = some (.float .f32)) (e4 : P.underlying f4.type = some (.float .f32)) (e5 : P.underlying f5.type = some (.float .f32))
    (u1 : P.underlying g1.type = some (.float .f32)) (u2 : P.underlying ts = some (.slice te)) (u3 : P.underlying te = some (.float .f32)) (u4 : P.cellsOf te = 1)
    (hv : Value.okWide P w r b0 t v) (h : DataW.Trod enc P w base spare held t v d p) :
    ∃ (s : SF) (st : Nat) (hv : Value) (zs : List Nat), v = .agg #[.float .f32 s.so, .float .f32 s.fl, .float .f32 s.es, .float .f32 s.ef, .float .f32 s.pt, .float .f32 s.la, .float .f32 st, hv] ∧ FRow w hv zs ∧ s.wf ∧ (Lit.float .f32 st).wf = true ∧ (∀ i, i < zs.length → (Lit.float .f32 (zs.getD i 0)).wf = true) := by
  obtain ⟨cs, rfl, hsz⟩ := okWide_struct hb hv
  obtain ⟨l⟩ := cs
  obtain ⟨fuel, hf⟩ := h
  obtain ⟨xs, m, _, _, hl, hx, hg⟩ := DataW.trod_struct hb hf
  have hx' : xs.length = 3 := hx
  have hl' : l.length = 8 := by simpa [Value.cells] using hl.trans hBC
  match l, hl', xs, hx' with
  | [c0, c1, c2, c3, c4, c5, c6, c7], _, [y0, y1, y2], _ =>
    have k0 := hg 0 g0 rfl
    have k1 := hg 1 g1 rfl
    have k2 := hg 2 g2 rfl
    rw [p0, t0, hC] at k0
    rw [p1, q1] at k1
    rw [p2, q2, t2] at k2
    obtain ⟨s, hcs, hw⟩ := tr_stuff hs hone hC e0 e1 e2 e3 e4 e5 (show DataW.trod enc P w base spare held m tf [c0, c1, c2, c3, c4, c5] = some y0 from k0)
    obtain ⟨b, rfl, wb⟩ := tr_f32 u1 (show DataW.trod enc P w base spare held m g1.type [c6] = some y1 from k1)
    obtain ⟨zs, hz, wz⟩ := tr_f32s u2 u3 u4 (show DataW.trod enc P w base spare held m ts [c7] = some y2 from k2)
    unfold SF.vs at hcs
    simp only [List.cons.injEq, and_true] at hcs
    obtain ⟨rfl, rfl, rfl, rfl, rfl, rfl⟩ := hcs
    exact ⟨s, b, c7, zs, rfl, hz, hw, wb, wz⟩
end
end Go.Proofs.YthedpbdeahieaaaDoor
