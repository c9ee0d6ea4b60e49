/- Arguments that are faces, opened: three 32-bit numbers. -/
import Derived.Test.YtdemahghjgghkaaPos
import Derived.Lib.SmallJoins
namespace Go.Proofs.Ytdemahghjgghkaa
open Go.RowKit Go.ChangeShapes Go.WideShapes Go.Joins Go.Deep

/-- a face's three numbers -/
structure FA where
  wd : Nat
  sh : Nat
  wm : Nat
def FA.wf (s : FA) : Prop := (Lit.float .f32 s.wd).wf = true ∧ (Lit.float .f32 s.sh).wf = true ∧ (Lit.float .f32 s.wm).wf = true
abbrev FA.vs (s : FA) : List Value := [.float .f32 s.wd, .float .f32 s.sh, .float .f32 s.wm]

section
variable {H : Type} {enc : TypeId × Value → H} {P : Program} {w : World} {base : Nat} {spare : Nat → Bool} {held : Bool}

theorem trF_f32 {t : TypeId} {n : Nat} {v : Value} {y : DataW H × List MemPlace} (he : P.underlying t = some (.float .f32)) (h : DataW.trod enc P w base spare held n t [v] = some y) :
    ∃ b, v = .float .f32 b ∧ (Lit.float .f32 b).wf = true := by
  cases n with
  | zero => simp [DataW.trod] at h
  | succ n =>
    cases v <;> simp [DataW.trod, he] at h
    rename_i k b
    obtain ⟨⟨rfl, hw⟩, _⟩ := h
    exact ⟨b, rfl, hw⟩

theorem tr_face {t : TypeId} {f0 f1 f2 : Field} {n : Nat} {cs : List Value} {y : DataW H × List MemPlace} (hs : P.underlying t = some (.struct #[f0, f1, f2])) (hone : oneCellFields P #[f0, f1, f2] = true) (hC : P.cellsOf t = 3)
    (e0 : P.underlying f0.type = some (.float .f32)) (e1 : P.underlying f1.type = some (.float .f32)) (e2 : P.underlying f2.type = some (.float .f32))
    (h : DataW.trod enc P w base spare held n t cs = some y) : ∃ s : FA, cs = s.vs ∧ s.wf := by
  obtain ⟨xs, m, _, _, hl, hx, hg⟩ := DataW.trod_struct hs h
  have hx' : xs.length = 3 := hx
  match cs, hl.trans hC, xs, hx' with
  | [c0, c1, c2], _, [y0, y1, y2], _ =>
    obtain ⟨o0, k0⟩ := hone_of hone 0 f0 rfl
    obtain ⟨o1, k1⟩ := hone_of hone 1 f1 rfl
    obtain ⟨o2, k2⟩ := hone_of hone 2 f2 rfl
    have g0 := hg 0 f0 rfl
    have g1 := hg 1 f1 rfl
    have g2 := hg 2 f2 rfl
    rw [o0, k0] at g0
    rw [o1, k1] at g1
    rw [o2, k2] at g2
    obtain ⟨b0, rfl, w0⟩ := trF_f32 e0 (show DataW.trod enc P w base spare held m f0.type [c0] = some y0 from g0)
    obtain ⟨b1, rfl, w1⟩ := trF_f32 e1 (show DataW.trod enc P w base spare held m f1.type [c1] = some y1 from g1)
    obtain ⟨b2, rfl, w2⟩ := trF_f32 e2 (show DataW.trod enc P w base spare held m f2.type [c2] = some y2 from g2)
    exact ⟨⟨b0, b1, b2⟩, rfl, w0, w1, w2⟩

theorem open_face {r : Reach} {b0 : Nat} {t : TypeId} {f0 f1 f2 : Field} {v : Value} {d : DataW H} {p : List MemPlace} (hs : P.underlying t = some (.struct #[f0, f1, f2])) (hone : oneCellFields P #[f0, f1, f2] = true) (hC : P.cellsOf t = 3)
    (e0 : P.underlying f0.type = some (.float .f32)) (e1 : P.underlying f1.type = some (.float .f32)) (e2 : P.underlying f2.type = some (.float .f32))
    (hv : Value.okWide P w r b0 t v) (h : DataW.Trod enc P w base spare held t v d p) : ∃ s : FA, v = .agg #[.float .f32 s.wd, .float .f32 s.sh, .float .f32 s.wm] ∧ s.wf := by
  obtain ⟨cs, rfl, hsz⟩ := okWide_struct hs hv
  obtain ⟨l⟩ := cs
  obtain ⟨fuel, hf⟩ := h
  obtain ⟨s, hcs, hw⟩ := tr_face hs hone hC e0 e1 e2 hf
  have : l = s.vs := by simpa [Value.cells] using hcs
  exact ⟨s, by rw [this], hw⟩
end
end Go.Proofs.Ytdemahghjgghkaa
