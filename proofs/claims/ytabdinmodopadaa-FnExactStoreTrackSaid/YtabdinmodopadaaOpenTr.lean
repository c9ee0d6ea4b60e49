/- Arguments that are tracks, opened. -/
import Derived.Test.YtabdinmodopadaaPosW
import Derived.Test.YtabdinmodopadaaJRow
import Derived.Test.YtabdinmodopadaaRowI
import Derived.Lib.SmallJoins
namespace Go.Proofs.Ytabdinmodopadaa
open Go.RowKit Go.ChangeShapes Go.WideShapes Go.Joins Go.Deep
set_option linter.unusedVariables false

section
variable {H : Type} {enc : TypeId × Value → H} {P : Program} {w : World} {base : Nat} {spare : Nat → Bool} {held : Bool}
theorem trt_str {t : TypeId} {n : Nat} {v : Value} {y : DataW H × List MemPlace} (ht : P.underlying t = some .string) (h : DataW.trod enc P w base spare held n t [v] = some y) : ∃ s : ByteArray, v = .string s ∧ s.size ≤ maxLen := by
  obtain ⟨s', hv, _, hs⟩ := DataW.trod_string ht h
  simp at hv
  exact ⟨s', hv, hs⟩
theorem trt_i64s {t e : TypeId} {n : Nat} {v : Value} {y : DataW H × List MemPlace} (ht : P.underlying t = some (.slice e)) (he : P.underlying e = some (.int .i64)) (hc : P.cellsOf e = 1)
    (h : DataW.trod enc P w base spare held n t [v] = some y) : ∃ zs, JRow w v zs := by
  have hv : ∃ a len cap, v = .slice a len cap := by
    rcases Deep.open_slice1 ht hc h with ⟨hcs, _⟩ | ⟨x, l, c, m, n, V, D, Pl, hcs, _⟩
    · simp at hcs; exact ⟨_, _, _, hcs⟩
    · simp at hcs; exact ⟨_, _, _, hcs⟩
  obtain ⟨a, len, cap, rfl⟩ := hv
  obtain ⟨zs, hz⟩ := open_irow (enc := enc) (P := P) (w := w) (base := base) (spare := spare) (held := held) (d := y.1) (ps := y.2) (k := .i64) ht he hc ⟨n, by simpa [Value.cells] using h⟩
  exact ⟨zs, hz.1⟩
theorem open_track {rr : Reach} {b0 : Nat} {t s1 s e : TypeId} {f0 f1 : Field} {v : Value} {d : DataW H} {p : List MemPlace} (hs : P.underlying t = some (.struct #[f0, f1])) (hone : oneCellFields P #[f0, f1] = true) (hC : P.cellsOf t = 2)
    (e0 : f0.type = s1) (e1 : f1.type = s)
    (us1 : P.underlying s1 = some .string) (us : P.underlying s = some (.slice e)) (ue : P.underlying e = some (.int .i64)) (uc : P.cellsOf e = 1)
    (hv : Value.okWide P w rr b0 t v) (h : DataW.Trod enc P w base spare held t v d p) : ∃ (x : ByteArray) (b : Value) (zs : List Int), v = .agg #[.string x, b] ∧ JRow w b zs ∧ x.size ≤ maxLen := by
  obtain ⟨cs, rfl, hsz⟩ := okWide_struct hs hv
  obtain ⟨l⟩ := cs
  obtain ⟨fuel, hf⟩ := h
  obtain ⟨xs, m, _, _, hl, hx, hg⟩ := DataW.trod_struct hs hf
  have hx' : xs.length = 2 := hx
  have hl' : l.length = 2 := by simpa [Value.cells] using hl.trans hC
  match l, hl', xs, hx' with
  | [c0, c1], _, [y0, y1], _ =>
    obtain ⟨o0, k0⟩ := hone_of hone 0 f0 rfl
    obtain ⟨o1, k1⟩ := hone_of hone 1 f1 rfl
    have g0 := hg 0 f0 rfl
    have g1 := hg 1 f1 rfl
    rw [o0, k0, e0] at g0
    rw [o1, k1, e1] at g1
    obtain ⟨z0, rfl, w0⟩ := trt_str us1 (show DataW.trod enc P w base spare held m s1 [c0] = some y0 from g0)
    obtain ⟨z1, r1⟩ := trt_i64s us ue uc (show DataW.trod enc P w base spare held m s [c1] = some y1 from g1)
    exact ⟨z0, c1, z1, rfl, r1, w0⟩
end

end Go.Proofs.Ytabdinmodopadaa
