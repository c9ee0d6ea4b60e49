/- Arguments that are structs, opened: a cup (two integers), a stuff (six 32-bit numbers). -/
import Derived.Test.YthedpbdeahieaaaDoorPos
import Derived.Lib.SmallJoins
namespace Go.Proofs.YthedpbdeahieaaaDoor
open Go.RowKit Go.ChangeShapes Go.WideShapes Go.Joins Go.Deep

/-- a stuff's six numbers -/
structure SF where
  so : Nat
  fl : Nat
  es : Nat
  ef : Nat
  pt : Nat
  la : Nat
def SF.wf (s : SF) : Prop := (Lit.float .f32 s.so).wf = true ∧ (Lit.float .f32 s.fl).wf = true ∧ (Lit.float .f32 s.es).wf = true ∧ (Lit.float .f32 s.ef).wf = true ∧ (Lit.float .f32 s.pt).wf = true ∧ (Lit.float .f32 s.la).wf = true

section
variable {H : Type} {enc : TypeId × Value → H} {P : Program} {w : World} {base : Nat} {spare : Nat → Bool} {held : Bool}

theorem tr_f32 {t : TypeId} {n : Nat} {v : Value} {y : DataW H × List MemPlace} (he : P.underlying t = some (.float .f32)) (h : DataW.trod enc P w base spare held n t [v] = some y) :
    ∃ b, v = .float .f32 b ∧ (Lit.float .f32 b).wf = true := by
  cases n with
  | zero => simp [DataW.trod] at h
  | succ n =>
    cases v <;> simp [DataW.trod, he] at h
    rename_i k b
    obtain ⟨⟨rfl, hw⟩, _⟩ := h
    exact ⟨b, rfl, hw⟩

theorem tr_i64 {t : TypeId} {n : Nat} {v : Value} {y : DataW H × List MemPlace} (he : P.underlying t = some (.int .i64)) (h : DataW.trod enc P w base spare held n t [v] = some y) :
    ∃ b, v = .int .i64 b ∧ (Lit.int .i64 b).wf = true := by
  cases n with
  | zero => simp [DataW.trod] at h
  | succ n =>
    cases v <;> simp [DataW.trod, he] at h
    rename_i k b
    obtain ⟨⟨rfl, hw⟩, _⟩ := h
    exact ⟨b, rfl, hw⟩

theorem open_cup {r : Reach} {b0 : Nat} {t : TypeId} {f0 f1 : Field} {v : Value} {d : DataW H} {p : List MemPlace} (hs : P.underlying t = some (.struct #[f0, f1])) (hone : oneCellFields P #[f0, f1] = true) (hC : P.cellsOf t = 2)
    (e0 : P.underlying f0.type = some (.int .i64)) (e1 : P.underlying f1.type = some (.int .i64))
    (hv : Value.okWide P w r b0 t v) (h : DataW.Trod enc P w base spare held t v d p) : ∃ m k, v = .agg #[.int .i64 m, .int .i64 k] ∧ (Lit.int .i64 m).wf = true ∧ (Lit.int .i64 k).wf = true := by
  obtain ⟨c0, c1, y0, y1, m, rfl, rfl, rfl, h0, h1⟩ := open_agg2 hs hone hC hv h
  obtain ⟨k, rfl, hk⟩ := tr_i64 e0 h0
  obtain ⟨x, rfl, hx⟩ := tr_i64 e1 h1
  exact ⟨k, x, rfl, hk, hx⟩

def SF.vs (s : SF) : List Value := [.float .f32 s.so, .float .f32 s.fl, .float .f32 s.es, .float .f32 s.ef, .float .f32 s.pt, .float .f32 s.la]

theorem tr_stuff {t : TypeId} {f0 f1 f2 f3 f4 f5 : Field} {n : Nat} {cs : List Value} {y : DataW H × List MemPlace} (hs : P.underlying t = some (.struct #[f0, f1, f2, f3, f4, f5])) (hone : oneCellFields P #[f0, f1, f2, f3, f4, f5] = true) (hC : P.cellsOf t = 6)
    (e0 : P.underlying f0.type = some (.float .f32)) (e1 : P.underlying f1.type = some (.float .f32)) (e2 : P.underlying f2.type = some (.float .f32)) (e3 : P.underlying f3.type = some (.float .f32)) (e4 : P.underlying f4.type = some (.float .f32)) (e5 : P.underlying f5.type = some (.float .f32))
    (h : DataW.trod enc P w base spare held n t cs = some y) : ∃ s : SF, cs = s.vs ∧ s.wf := by
  obtain ⟨xs, m, _, _, hl, hx, hg⟩ := DataW.trod_struct hs h
  have hx' : xs.length = 6 := hx
  match cs, hl.trans hC, xs, hx' with
  | [c0, c1, c2, c3, c4, c5], _, [y0, y1, y2, y3, y4, y5], _ =>
    obtain ⟨o0, k0⟩ := hone_of hone 0 f0 rfl
    obtain ⟨o1, k1⟩ := hone_of hone 1 f1 rfl
    obtain ⟨o2, k2⟩ := hone_of hone 2 f2 rfl
    obtain ⟨o3, k3⟩ := hone_of hone 3 f3 rfl
    obtain ⟨o4, k4⟩ := hone_of hone 4 f4 rfl
    obtain ⟨o5, k5⟩ := hone_of hone 5 f5 rfl
    have g0 := hg 0 f0 rfl
    have g1 := hg 1 f1 rfl
    have g2 := hg 2 f2 rfl
    have g3 := hg 3 f3 rfl
    have g4 := hg 4 f4 rfl
    have g5 := hg 5 f5 rfl
    rw [o0, k0] at g0
    rw [o1, k1] at g1
    rw [o2, k2] at g2
    rw [o3, k3] at g3
    rw [o4, k4] at g4
    rw [o5, k5] at g5
    obtain ⟨b0, rfl, w0⟩ := tr_f32 e0 (show DataW.trod enc P w base spare held m f0.type [c0] = some y0 from g0)
    obtain ⟨b1, rfl, w1⟩ := tr_f32 e1 (show DataW.trod enc P w base spare held m f1.type [c1] = some y1 from g1)
    obtain ⟨b2, rfl, w2⟩ := tr_f32 e2 (show DataW.trod enc P w base spare held m f2.type [c2] = some y2 from g2)
    obtain ⟨b3, rfl, w3⟩ := tr_f32 e3 (show DataW.trod enc P w base spare held m f3.type [c3] = some y3 from g3)
    obtain ⟨b4, rfl, w4⟩ := tr_f32 e4 (show DataW.trod enc P w base spare held m f4.type [c4] = some y4 from g4)
    obtain ⟨b5, rfl, w5⟩ := tr_f32 e5 (show DataW.trod enc P w base spare held m f5.type [c5] = some y5 from g5)
    exact ⟨⟨b0, b1, b2, b3, b4, b5⟩, rfl, w0, w1, w2, w3, w4, w5⟩

theorem open_stuff {r : Reach} {b0 : Nat} {t : TypeId} {f0 f1 f2 f3 f4 f5 : Field} {v : Value} {d : DataW H} {p : List MemPlace} (hs : P.underlying t = some (.struct #[f0, f1, f2, f3, f4, f5])) (hone : oneCellFields P #[f0, f1, f2, f3, f4, f5] = true) (hC : P.cellsOf t = 6)
    (e0 : P.underlying f0.type = some (.float .f32)) (e1 : P.underlying f1.type = some (.float .f32)) (e2 : P.underlying f2.type = some (.float .f32)) (e3 : P.underlying f3.type = some (.float .f32)) (e4 : P.underlying f4.type = some (.float .f32)) (e5 : P.underlying f5.type = some (.float .f32))
    (hv : Value.okWide P w r b0 t v) (h : DataW.Trod enc P w base spare held t v d p) : ∃ s : SF, v = .agg #[.float .f32 s.so, .float .f32 s.fl, .float .f32 s.es, .float .f32 s.ef, .float .f32 s.pt, .float .f32 s.la] ∧ s.wf := by
  obtain ⟨cs, rfl, hsz⟩ := okWide_struct hs hv
  obtain ⟨l⟩ := cs
  obtain ⟨fuel, hf⟩ := h
  obtain ⟨s, hcs, hw⟩ := tr_stuff hs hone hC e0 e1 e2 e3 e4 e5 hf
  have : l = s.vs := by simpa [Value.cells] using hcs
  subst this
  exact ⟨s, rfl, hw⟩

end
end Go.Proofs.YthedpbdeahieaaaDoor
