/- Arguments that are guesses, opened. -/
import Derived.Test.YtdemahghjgghkaaOpenF
namespace Go.Proofs.Ytdemahghjgghkaa
open Go.RowKit Go.ChangeShapes Go.WideShapes Go.Joins Go.Deep
set_option linter.unusedVariables false

theorem tr_guess {H : Type} {enc : TypeId × Value → H} {P : Program} {w : World} {base : Nat} {spare : Nat → Bool} {held : Bool} {t : TypeId} {f0 f1 : Field} {n : Nat} {cs : List Value} {y : DataW H × List MemPlace} (hs : P.underlying t = some (.struct #[f0, f1])) (hone : oneCellFields P #[f0, f1] = true) (hC : P.cellsOf t = 2)
    (e0 : P.underlying f0.type = some (.float .f32)) (e1 : P.underlying f1.type = some (.float .f32))
    (h : DataW.trod enc P w base spare held n t cs = some y) : ∃ a b : Nat, cs = [.float .f32 a, .float .f32 b] := by
  obtain ⟨xs, m, _, _, hl, hx, hg⟩ := DataW.trod_struct hs h
  have hx' : xs.length = 2 := hx
  match cs, hl.trans hC, xs, hx' with
  | [c0, c1], _, [y0, y1], _ =>
    obtain ⟨o0, k0⟩ := hone_of hone 0 f0 rfl
    obtain ⟨o1, k1⟩ := hone_of hone 1 f1 rfl
    have g0 := hg 0 f0 rfl
    have g1 := hg 1 f1 rfl
    rw [o0, k0] at g0
    rw [o1, k1] at g1
    obtain ⟨b0, rfl, w0⟩ := trF_f32 e0 (show DataW.trod enc P w base spare held m f0.type [c0] = some y0 from g0)
    obtain ⟨b1, rfl, w1⟩ := trF_f32 e1 (show DataW.trod enc P w base spare held m f1.type [c1] = some y1 from g1)
    exact ⟨b0, b1, rfl⟩
theorem open_guess {H : Type} {enc : TypeId × Value → H} {P : Program} {w : World} {base : Nat} {spare : Nat → Bool} {held : Bool} {r : Reach} {b0 : Nat} {t : TypeId} {f0 f1 : Field} {v : Value} {d : DataW H} {p : List MemPlace} (hs : P.underlying t = some (.struct #[f0, f1])) (hone : oneCellFields P #[f0, f1] = true) (hC : P.cellsOf t = 2)
    (e0 : P.underlying f0.type = some (.float .f32)) (e1 : P.underlying f1.type = some (.float .f32))
    (hv : Value.okWide P w r b0 t v) (h : DataW.Trod enc P w base spare held t v d p) : ∃ a b : Nat, v = .agg #[.float .f32 a, .float .f32 b] := by
  obtain ⟨cs, rfl, hsz⟩ := okWide_struct hs hv
  obtain ⟨l⟩ := cs
  obtain ⟨fuel, hf⟩ := h
  obtain ⟨x, y, hcs⟩ := tr_guess hs hone hC e0 e1 hf
  have : l = [.float .f32 x, .float .f32 y] := by simpa [Value.cells] using hcs
  exact ⟨x, y, by rw [this]⟩

end Go.Proofs.Ytdemahghjgghkaa
