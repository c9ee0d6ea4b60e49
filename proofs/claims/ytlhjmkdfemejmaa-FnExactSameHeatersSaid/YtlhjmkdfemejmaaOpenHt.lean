/- Arguments that are heaters, opened. -/
import Derived.Test.YtlhjmkdfemejmaaOpenF
namespace Go.Proofs.Ytlhjmkdfemejmaa
open Go.RowKit Go.ChangeShapes Go.WideShapes Go.Joins Go.Deep

/-- a heater -/
structure HT where
  rm : Int
  pw : Nat
  lo : Nat
  hi : Nat
  on : Bool
def HT.wf (s : HT) : Prop := (Lit.int .i64 s.rm).wf = true ∧ (Lit.float .f32 s.pw).wf = true ∧ (Lit.float .f32 s.lo).wf = true ∧ (Lit.float .f32 s.hi).wf = true
abbrev HT.vs (s : HT) : List Value := [.int .i64 s.rm, .float .f32 s.pw, .float .f32 s.lo, .float .f32 s.hi, .bool s.on]

section
variable {H : Type} {enc : TypeId × Value → H} {P : Program} {w : World} {base : Nat} {spare : Nat → Bool} {held : Bool}

theorem trF_i64 {t : TypeId} {n : Nat} {v : Value} {y : DataW H × List MemPlace} (he : P.underlying t = some (.int .i64)) (h : DataW.trod enc P w base spare held n t [v] = some y) :
    ∃ b, v = .int .i64 b ∧ (Lit.int .i64 b).wf = true := by
  cases n with
  | zero => simp [DataW.trod] at h
  | succ n =>
    cases v <;> simp [DataW.trod, he] at h
    rename_i k b
    obtain ⟨⟨rfl, hw⟩, _⟩ := h
    exact ⟨b, rfl, hw⟩
theorem trF_bool {t : TypeId} {n : Nat} {v : Value} {y : DataW H × List MemPlace} (he : P.underlying t = some .bool) (h : DataW.trod enc P w base spare held n t [v] = some y) :
    ∃ b, v = .bool b := by
  cases n with
  | zero => simp [DataW.trod] at h
  | succ n =>
    cases v <;> simp [DataW.trod, he] at h
    exact ⟨_, rfl⟩

theorem tr_heater {t : TypeId} {f0 f1 f2 f3 f4 : Field} {n : Nat} {cs : List Value} {y : DataW H × List MemPlace} (hs : P.underlying t = some (.struct #[f0, f1, f2, f3, f4])) (hone : oneCellFields P #[f0, f1, f2, f3, f4] = true) (hC : P.cellsOf t = 5)
    (e0 : P.underlying f0.type = some (.int .i64)) (e1 : P.underlying f1.type = some (.float .f32)) (e2 : P.underlying f2.type = some (.float .f32)) (e3 : P.underlying f3.type = some (.float .f32)) (e4 : P.underlying f4.type = some .bool)
    (h : DataW.trod enc P w base spare held n t cs = some y) : ∃ s : HT, cs = s.vs ∧ s.wf := by
  obtain ⟨xs, m, _, _, hl, hx, hg⟩ := DataW.trod_struct hs h
  have hx' : xs.length = 5 := hx
  match cs, hl.trans hC, xs, hx' with
  | [c0, c1, c2, c3, c4], _, [y0, y1, y2, y3, y4], _ =>
    obtain ⟨o0, k0⟩ := hone_of hone 0 f0 rfl
    obtain ⟨o1, k1⟩ := hone_of hone 1 f1 rfl
    obtain ⟨o2, k2⟩ := hone_of hone 2 f2 rfl
    obtain ⟨o3, k3⟩ := hone_of hone 3 f3 rfl
    obtain ⟨o4, k4⟩ := hone_of hone 4 f4 rfl
    have g0 := hg 0 f0 rfl
    have g1 := hg 1 f1 rfl
    have g2 := hg 2 f2 rfl
    have g3 := hg 3 f3 rfl
    have g4 := hg 4 f4 rfl
    rw [o0, k0] at g0
    rw [o1, k1] at g1
    rw [o2, k2] at g2
    rw [o3, k3] at g3
    rw [o4, k4] at g4
    obtain ⟨b0, rfl, w0⟩ := trF_i64 e0 (show DataW.trod enc P w base spare held m f0.type [c0] = some y0 from g0)
    obtain ⟨b1, rfl, w1⟩ := trF_f32 e1 (show DataW.trod enc P w base spare held m f1.type [c1] = some y1 from g1)
    obtain ⟨b2, rfl, w2⟩ := trF_f32 e2 (show DataW.trod enc P w base spare held m f2.type [c2] = some y2 from g2)
    obtain ⟨b3, rfl, w3⟩ := trF_f32 e3 (show DataW.trod enc P w base spare held m f3.type [c3] = some y3 from g3)
    obtain ⟨b4, rfl⟩ := trF_bool e4 (show DataW.trod enc P w base spare held m f4.type [c4] = some y4 from g4)
    exact ⟨⟨b0, b1, b2, b3, b4⟩, rfl, w0, w1, w2, w3⟩

theorem open_heater {r : Reach} {b0 : Nat} {t : TypeId} {f0 f1 f2 f3 f4 : Field} {v : Value} {d : DataW H} {p : List MemPlace} (hs : P.underlying t = some (.struct #[f0, f1, f2, f3, f4])) (hone : oneCellFields P #[f0, f1, f2, f3, f4] = true) (hC : P.cellsOf t = 5)
    (e0 : P.underlying f0.type = some (.int .i64)) (e1 : P.underlying f1.type = some (.float .f32)) (e2 : P.underlying f2.type = some (.float .f32)) (e3 : P.underlying f3.type = some (.float .f32)) (e4 : P.underlying f4.type = some .bool)
    (hv : Value.okWide P w r b0 t v) (h : DataW.Trod enc P w base spare held t v d p) : ∃ s : HT, v = .agg #[.int .i64 s.rm, .float .f32 s.pw, .float .f32 s.lo, .float .f32 s.hi, .bool s.on] ∧ s.wf := by
  obtain ⟨cs, rfl, hsz⟩ := okWide_struct hs hv
  obtain ⟨l⟩ := cs
  obtain ⟨fuel, hf⟩ := h
  obtain ⟨s, hcs, hw⟩ := tr_heater hs hone hC e0 e1 e2 e3 e4 hf
  have : l = s.vs := by simpa [Value.cells] using hcs
  exact ⟨s, by rw [this], hw⟩
end
end Go.Proofs.Ytlhjmkdfemejmaa
